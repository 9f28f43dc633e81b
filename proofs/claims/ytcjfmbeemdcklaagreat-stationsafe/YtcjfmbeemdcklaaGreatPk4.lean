/-
  Texts joined: J6, J7, J8, Z10, O2, O6, Z17, Z11, Z18, Z12.
-/
import Derived.Deep.CutRange
import Derived.Test.YtcjfmbeemdcklaaGreatPk3
/-
  'Tap' (package gate).
-/
namespace Go.Proofs.YtcjfmbeemdcklaaGreat
open Go.RowKit
theorem Tap5.setne {w : World} {b : Nat} {x : TP} (h : Tap5 w ⟨b, 0, none⟩ x) (p : Addr) (hne : p.block ≠ b) (u : Value) : Tap5 (w.setCell p u) ⟨b, 0, none⟩ x :=
  ⟨cell_set_ne hne h.c0, cell_set_ne hne h.c1, cell_set_ne hne h.c2, cell_set_ne hne h.c3, cell_set_ne hne h.c4⟩
theorem Blks.put8 {w w1 : World} {os : List Obj} (h : Blks w w1 os) (n b : Nat) (a0 a1 a2 a3 a4 a5 a6 a7 x0 x1 x2 x3 x4 x5 x6 x7 : Value) (T : TypeId) (hi : os[n]? = some (.cells #[a0, a1, a2, a3, a4, a5, a6, a7] T)) (hb : b = w.heap.size + n) :
    Blks w ((((((((w1.setCell ⟨b, 0, none⟩ (x0)).setCell ⟨b, 1, none⟩ (x1)).setCell ⟨b, 2, none⟩ (x2)).setCell ⟨b, 3, none⟩ (x3)).setCell ⟨b, 4, none⟩ (x4)).setCell ⟨b, 5, none⟩ (x5)).setCell ⟨b, 6, none⟩ (x6)).setCell ⟨b, 7, none⟩ (x7)) (os.set n (.cells #[x0, x1, x2, x3, x4, x5, x6, x7] T)) := by
  have hn := (List.getElem?_eq_some_iff.1 hi).1
  have h0 := h.put n 0 b _ T x0 hi hb
  have h1 := h0.put n 1 b #[x0, a1, a2, a3, a4, a5, a6, a7] T x1 (by rw [List.getElem?_set_self hn]; rfl) hb
  rw [List.set_set] at h1
  have h2 := h1.put n 2 b #[x0, x1, a2, a3, a4, a5, a6, a7] T x2 (by rw [List.getElem?_set_self hn]; rfl) hb
  rw [List.set_set] at h2
  have h3 := h2.put n 3 b #[x0, x1, x2, a3, a4, a5, a6, a7] T x3 (by rw [List.getElem?_set_self hn]; rfl) hb
  rw [List.set_set] at h3
  have h4 := h3.put n 4 b #[x0, x1, x2, x3, a4, a5, a6, a7] T x4 (by rw [List.getElem?_set_self hn]; rfl) hb
  rw [List.set_set] at h4
  have h5 := h4.put n 5 b #[x0, x1, x2, x3, x4, a5, a6, a7] T x5 (by rw [List.getElem?_set_self hn]; rfl) hb
  rw [List.set_set] at h5
  have h6 := h5.put n 6 b #[x0, x1, x2, x3, x4, x5, a6, a7] T x6 (by rw [List.getElem?_set_self hn]; rfl) hb
  rw [List.set_set] at h6
  have h7 := h6.put n 7 b #[x0, x1, x2, x3, x4, x5, x6, a7] T x7 (by rw [List.getElem?_set_self hn]; rfl) hb
  rw [List.set_set] at h7
  exact h7
theorem Blks.put5 {w w1 : World} {os : List Obj} (h : Blks w w1 os) (n b : Nat) (a0 a1 a2 a3 a4 x0 x1 x2 x3 x4 : Value) (T : TypeId) (hi : os[n]? = some (.cells #[a0, a1, a2, a3, a4] T)) (hb : b = w.heap.size + n) :
    Blks w (((((w1.setCell ⟨b, 0, none⟩ (x0)).setCell ⟨b, 1, none⟩ (x1)).setCell ⟨b, 2, none⟩ (x2)).setCell ⟨b, 3, none⟩ (x3)).setCell ⟨b, 4, none⟩ (x4)) (os.set n (.cells #[x0, x1, x2, x3, x4] T)) := by
  have hn := (List.getElem?_eq_some_iff.1 hi).1
  have h0 := h.put n 0 b _ T x0 hi hb
  have h1 := h0.put n 1 b #[x0, a1, a2, a3, a4] T x1 (by rw [List.getElem?_set_self hn]; rfl) hb
  rw [List.set_set] at h1
  have h2 := h1.put n 2 b #[x0, x1, a2, a3, a4] T x2 (by rw [List.getElem?_set_self hn]; rfl) hb
  rw [List.set_set] at h2
  have h3 := h2.put n 3 b #[x0, x1, x2, a3, a4] T x3 (by rw [List.getElem?_set_self hn]; rfl) hb
  rw [List.set_set] at h3
  have h4 := h3.put n 4 b #[x0, x1, x2, x3, a4] T x4 (by rw [List.getElem?_set_self hn]; rfl) hb
  rw [List.set_set] at h4
  exact h4
def tapG (i z s : Int) (P : List TP) (v : Int) (D : List Int) (l u : Int) (x : TK) (m : Int) : Int :=
  if unfG i z s P v D l u x m = 0 then (if shutG D u z x m = 0 then (if spentG P l x = true then 10 else if fullG P.length s = true then 2 else 0) else shutG D u z x m) else unfG i z s P v D l u x m
theorem tapG_ways (i z s : Int) (P : List TP) (v : Int) (D : List Int) (l u : Int) (x : TK) (m : Int) : ((unfG i z s P v D l u x m != 0) = true ∧ tapG i z s P v D l u x m = unfG i z s P v D l u x m) ∨ (unfG i z s P v D l u x m = 0 ∧ (shutG D u z x m != 0) = true ∧ tapG i z s P v D l u x m = shutG D u z x m) ∨
    (unfG i z s P v D l u x m = 0 ∧ shutG D u z x m = 0 ∧ spentG P l x = true ∧ tapG i z s P v D l u x m = 10) ∨ (unfG i z s P v D l u x m = 0 ∧ shutG D u z x m = 0 ∧ spentG P l x = false ∧ fullG P.length s = true ∧ tapG i z s P v D l u x m = 2) ∨
    (unfG i z s P v D l u x m = 0 ∧ shutG D u z x m = 0 ∧ spentG P l x = false ∧ fullG P.length s = false ∧ tapG i z s P v D l u x m = 0) := by
  rw [tapG]
  by_cases h1 : unfG i z s P v D l u x m = 0
  · by_cases h2 : shutG D u z x m = 0
    · cases spentG P l x <;> cases fullG P.length s <;> simp [h1, h2]
    · simp [h1, h2]
  · simp [h1]
theorem unfG_right {i z s : Int} {P : List TP} {v : Int} {D : List Int} {l u : Int} {x : TK} {m : Int} (h : unfG i z s P v D l u x m = 0) : chkG i z s P v D l u = 0 ∧ chkK x = 0 ∧ wi m 0 9999 = true ∧ earlyG P m = false := by
  rcases unfG_ways i z s P v D l u x m with ⟨h1, h2⟩ | ⟨h1, h2, h3⟩ | ⟨h1, h2, h3, h4⟩ | ⟨h1, h2, h3, h4, h5⟩ | ⟨h1, h2, h3, h4, h5⟩
  · rw [h2] at h; rw [h] at h1; cases h1
  · rw [h3] at h; rw [h] at h2; cases h2
  · omega
  · omega
  · exact ⟨h1, h2, h3, h4⟩
theorem unfG_more {i z s : Int} {P : List TP} {v : Int} {D : List Int} {l u : Int} {ti k f t y r m : Int} (h : unfG i z s P v D l u ⟨ti, k, f, t, y, r⟩ m = 0) : unfD v D ti = 0 ∧ 0 ≤ y ∧ y ≤ 15 ∧ isZ z = true ∧ 0 ≤ s ∧ s ≤ 99 ∧ P.length ≤ 12 ∧ D.length ≤ 12 ∧ 0 ≤ l ∧ l ≤ 9 := by
  obtain ⟨h1, h2, -, -⟩ := unfG_right h
  obtain ⟨g1, -, g3, g4⟩ := chkG_right h1
  have e1 := errS_right g1
  have e2 := chkD_right g3
  have e3 := chk_right (show chk ti k f t y r = 0 from h2)
  have e4 : wi l 0 9 = true := by
    rw [errB] at g4
    cases hw : wi l 0 9
    · rw [hw] at g4; simp at g4
    · rfl
  rw [wi_iff] at e4
  exact ⟨by rw [unfD, if_pos g3, (wi_iff ti 1 9999).2 ⟨e3.1.1, e3.1.2⟩, if_pos rfl], by omega, by omega, e1.2.2.1, e1.2.1.1, e1.2.1.2, e1.2.2.2, e2.2.2.1, e4.1, e4.2⟩
set_option maxHeartbeats 3200000 in
theorem gateTap_err (i z s : Int) (oa : Option Addr) (P : List TP) (ca : Nat) (v : Int) (od : Option Addr) (D : List Int) (cd : Nat) (l u : Int) (ti k f t y r m : Int) (w : World) (hP : TapsAt w oa P) (hD : IntsAt w od D) (hlP : P.length ≤ 9223372036854775807) (hlD : D.length ≤ 9223372036854775807) (hE : tapG i z s P v D l u ⟨ti, k, f, t, y, r⟩ m ≠ 0) :
    Calls Tryz.prog 30 #[gtV i z s oa P.length ca v od D.length cd l u, tk ti k f t y r, .int .i64 m] w fun e w' => e = .returned (.tuple #[gtV 0 0 0 none 0 0 0 none 0 0 0 0, tp 0 0 0 0 0, .int .i64 (tapG i z s P v D l u ⟨ti, k, f, t, y, r⟩ m)]) ∧ Below w.heap.size w w' := by
  have HU := hide (fun W (h : TapsAt W oa P) (h' : IntsAt W od D) => gateUnfit_any i z s oa P ca v od D cd l u ti k f t y r m W h h' hlD)
  have HS := hide (fun W (h0 : unfG i z s P v D l u ⟨ti, k, f, t, y, r⟩ m = 0) (h' : IntsAt W od D) => gateShut_any i z s oa P ca v od D cd l u ti k f t y r m W h' hlD (unfG_more h0).1 (unfG_more h0).2.1 (unfG_more h0).2.2.1 (unfG_more h0).2.2.2.1)
  have HN := hide (fun W (h : TapsAt W oa P) => gateSpent_any i z s oa P ca v od D cd l u ti k f t y r W h hlP)
  have HF := hide (fun W => fullG_any i z s oa P.length ca v od D.length cd l u W)
  have HP := hide hP
  have HD := hide hD
  clear hP hD
  have hp := tapG_ways i z s P v D l u ⟨ti, k, f, t, y, r⟩ m
  generalize tapG i z s P v D l u ⟨ti, k, f, t, y, r⟩ m = E at *
  generalize unfG i z s P v D l u ⟨ti, k, f, t, y, r⟩ m = X1 at *
  generalize shutG D u z ⟨ti, k, f, t, y, r⟩ m = X2 at *
  generalize spentG P l ⟨ti, k, f, t, y, r⟩ = X3 at *
  generalize fullG P.length s = X4 at *
  rcases hp with ⟨h1, rfl⟩ | ⟨rfl, h1, rfl⟩ | ⟨rfl, rfl, rfl, rfl⟩ | ⟨rfl, rfl, rfl, rfl, rfl⟩ | ⟨-, -, -, -, rfl⟩
  rotate_left 4
  · exact absurd rfl hE
  all_goals
    clear hE
    go_enter Tryz.func30, Tryz.ntmps30
    go_wp2_with fail
    have HG1 := hide ((((((Blks.nil w).more (.cells #[.int .i64 i, .int .i64 z, .int .i64 s, .slice oa P.length ca, .int .i64 v, .slice od D.length cd, .int .i64 l, .int .i64 u] 49) (by simp)).more (.cells #[.int .i64 ti, .int .i64 k, .int .i64 f, .int .i64 t, .int .i64 y, .int .i64 r] 34) (by simp)).more (.cells #[.int .i64 0, .int .i64 0, .int .i64 0, .slice none 0 0, .int .i64 0, .slice none 0 0, .int .i64 0, .int .i64 0] 49) (by simp)).more (.cells #[.int .i64 0, .int .i64 0, .int .i64 0, .int .i64 0, .int .i64 0] 58) (by simp)).more (.cells #[.int .i64 i, .int .i64 z, .int .i64 s, .slice oa P.length ca, .int .i64 v, .slice od D.length cd, .int .i64 l, .int .i64 u] 124) (by simp))
    refine (HU.out _ (HP.out.below HG1.out.2.2) (HD.out.below HG1.out.2.2)).mono ?_
    rintro e w1 ⟨rfl, hb⟩
    have HG1w1 := hide (HG1.out.on hb)
    clear hb HG1
    have lG1_1 := HG1w1.out.lt 1 (w.heap.size + 1) (by simp) rfl
    obtain ⟨cG1_1_0, cG1_1_1, cG1_1_2, cG1_1_3, cG1_1_4, cG1_1_5⟩ := HG1w1.out.c6 1 (w.heap.size + 1) rfl rfl rfl rfl rfl rfl rfl rfl
    have lG1_2 := HG1w1.out.lt 2 (w.heap.size + 1 + 1) (by simp) rfl
    obtain ⟨cG1_2_0, cG1_2_1, cG1_2_2, cG1_2_3, cG1_2_4, cG1_2_5, cG1_2_6, cG1_2_7⟩ := HG1w1.out.c8 2 (w.heap.size + 1 + 1) rfl rfl rfl rfl rfl rfl rfl rfl rfl rfl
    obtain ⟨fG1_2_0, fG1_2_1, fG1_2_2, fG1_2_3, fG1_2_4, fG1_2_5, fG1_2_6, fG1_2_7⟩ := HG1w1.out.z8 2 (w.heap.size + 1 + 1) rfl rfl
    have lG1_3 := HG1w1.out.lt 3 (w.heap.size + 1 + 1 + 1) (by simp) rfl
    obtain ⟨cG1_3_0, cG1_3_1, cG1_3_2, cG1_3_3, cG1_3_4⟩ := HG1w1.out.c5 3 (w.heap.size + 1 + 1 + 1) rfl rfl rfl rfl rfl rfl rfl
    obtain ⟨fG1_3_0, fG1_3_1, fG1_3_2, fG1_3_3, fG1_3_4⟩ := HG1w1.out.z5 3 (w.heap.size + 1 + 1 + 1) rfl rfl
    have lG1_4 := HG1w1.out.lt 4 (w.heap.size + 1 + 1 + 1 + 1) (by simp) rfl
    obtain ⟨cG1_4_0, cG1_4_1, cG1_4_2, cG1_4_3, cG1_4_4, cG1_4_5, cG1_4_6, cG1_4_7⟩ := HG1w1.out.c8 4 (w.heap.size + 1 + 1 + 1 + 1) rfl rfl rfl rfl rfl rfl rfl rfl rfl rfl
    go_wp2_with fail
  · refine bodyPost_ret (v := .tuple #[gtV 0 0 0 none 0 0 0 none 0 0 0 0, tp 0 0 0 0 0, .int .i64 E]) (by simp [results, Tryz.results30, go_sem, *]) rfl ⟨rfl, ?_⟩
    repeat (first | with_reducible refine Below.setCell ?_ (by simp; try omega) _ | exact HG1w1.out.2.2)
  all_goals
    refine (HS.out _ trivial (HD.out.below HG1w1.out.2.2)).mono ?_
    rintro e w2 ⟨rfl, hb⟩
    have HG1w2 := hide (HG1w1.out.on hb)
    clear lG1_1 cG1_1_0 cG1_1_1 cG1_1_2 cG1_1_3 cG1_1_4 cG1_1_5 lG1_2 cG1_2_0 fG1_2_0 cG1_2_1 fG1_2_1 cG1_2_2 fG1_2_2 cG1_2_3 fG1_2_3 cG1_2_4 fG1_2_4 cG1_2_5 fG1_2_5 cG1_2_6 fG1_2_6 cG1_2_7 fG1_2_7 lG1_3 cG1_3_0 fG1_3_0 cG1_3_1 fG1_3_1 cG1_3_2 fG1_3_2 cG1_3_3 fG1_3_3 cG1_3_4 fG1_3_4 lG1_4 cG1_4_0 cG1_4_1 cG1_4_2 cG1_4_3 cG1_4_4 cG1_4_5 cG1_4_6 cG1_4_7
    clear hb HG1w1
    have lG1_1 := HG1w2.out.lt 1 (w.heap.size + 1) (by simp) rfl
    obtain ⟨cG1_1_0, cG1_1_1, cG1_1_2, cG1_1_3, cG1_1_4, cG1_1_5⟩ := HG1w2.out.c6 1 (w.heap.size + 1) rfl rfl rfl rfl rfl rfl rfl rfl
    have lG1_2 := HG1w2.out.lt 2 (w.heap.size + 1 + 1) (by simp) rfl
    obtain ⟨cG1_2_0, cG1_2_1, cG1_2_2, cG1_2_3, cG1_2_4, cG1_2_5, cG1_2_6, cG1_2_7⟩ := HG1w2.out.c8 2 (w.heap.size + 1 + 1) rfl rfl rfl rfl rfl rfl rfl rfl rfl rfl
    obtain ⟨fG1_2_0, fG1_2_1, fG1_2_2, fG1_2_3, fG1_2_4, fG1_2_5, fG1_2_6, fG1_2_7⟩ := HG1w2.out.z8 2 (w.heap.size + 1 + 1) rfl rfl
    have lG1_3 := HG1w2.out.lt 3 (w.heap.size + 1 + 1 + 1) (by simp) rfl
    obtain ⟨cG1_3_0, cG1_3_1, cG1_3_2, cG1_3_3, cG1_3_4⟩ := HG1w2.out.c5 3 (w.heap.size + 1 + 1 + 1) rfl rfl rfl rfl rfl rfl rfl
    obtain ⟨fG1_3_0, fG1_3_1, fG1_3_2, fG1_3_3, fG1_3_4⟩ := HG1w2.out.z5 3 (w.heap.size + 1 + 1 + 1) rfl rfl
    have lG1_4 := HG1w2.out.lt 4 (w.heap.size + 1 + 1 + 1 + 1) (by simp) rfl
    obtain ⟨cG1_4_0, cG1_4_1, cG1_4_2, cG1_4_3, cG1_4_4, cG1_4_5, cG1_4_6, cG1_4_7⟩ := HG1w2.out.c8 4 (w.heap.size + 1 + 1 + 1 + 1) rfl rfl rfl rfl rfl rfl rfl rfl rfl rfl
    go_wp2_with fail
  · refine bodyPost_ret (v := .tuple #[gtV 0 0 0 none 0 0 0 none 0 0 0 0, tp 0 0 0 0 0, .int .i64 E]) (by simp [results, Tryz.results30, go_sem, *]) rfl ⟨rfl, ?_⟩
    repeat (first | with_reducible refine Below.setCell ?_ (by simp; try omega) _ | exact HG1w2.out.2.2)
  all_goals
    refine (HN.out _ (HP.out.below HG1w2.out.2.2)).mono ?_
    rintro e w3 ⟨rfl, hb⟩
    have HG1w3 := hide (HG1w2.out.on hb)
    clear lG1_1 cG1_1_0 cG1_1_1 cG1_1_2 cG1_1_3 cG1_1_4 cG1_1_5 lG1_2 cG1_2_0 fG1_2_0 cG1_2_1 fG1_2_1 cG1_2_2 fG1_2_2 cG1_2_3 fG1_2_3 cG1_2_4 fG1_2_4 cG1_2_5 fG1_2_5 cG1_2_6 fG1_2_6 cG1_2_7 fG1_2_7 lG1_3 cG1_3_0 fG1_3_0 cG1_3_1 fG1_3_1 cG1_3_2 fG1_3_2 cG1_3_3 fG1_3_3 cG1_3_4 fG1_3_4 lG1_4 cG1_4_0 cG1_4_1 cG1_4_2 cG1_4_3 cG1_4_4 cG1_4_5 cG1_4_6 cG1_4_7
    clear hb HG1w2
    have lG1_1 := HG1w3.out.lt 1 (w.heap.size + 1) (by simp) rfl
    obtain ⟨cG1_1_0, cG1_1_1, cG1_1_2, cG1_1_3, cG1_1_4, cG1_1_5⟩ := HG1w3.out.c6 1 (w.heap.size + 1) rfl rfl rfl rfl rfl rfl rfl rfl
    have lG1_2 := HG1w3.out.lt 2 (w.heap.size + 1 + 1) (by simp) rfl
    obtain ⟨cG1_2_0, cG1_2_1, cG1_2_2, cG1_2_3, cG1_2_4, cG1_2_5, cG1_2_6, cG1_2_7⟩ := HG1w3.out.c8 2 (w.heap.size + 1 + 1) rfl rfl rfl rfl rfl rfl rfl rfl rfl rfl
    obtain ⟨fG1_2_0, fG1_2_1, fG1_2_2, fG1_2_3, fG1_2_4, fG1_2_5, fG1_2_6, fG1_2_7⟩ := HG1w3.out.z8 2 (w.heap.size + 1 + 1) rfl rfl
    have lG1_3 := HG1w3.out.lt 3 (w.heap.size + 1 + 1 + 1) (by simp) rfl
    obtain ⟨cG1_3_0, cG1_3_1, cG1_3_2, cG1_3_3, cG1_3_4⟩ := HG1w3.out.c5 3 (w.heap.size + 1 + 1 + 1) rfl rfl rfl rfl rfl rfl rfl
    obtain ⟨fG1_3_0, fG1_3_1, fG1_3_2, fG1_3_3, fG1_3_4⟩ := HG1w3.out.z5 3 (w.heap.size + 1 + 1 + 1) rfl rfl
    have lG1_4 := HG1w3.out.lt 4 (w.heap.size + 1 + 1 + 1 + 1) (by simp) rfl
    obtain ⟨cG1_4_0, cG1_4_1, cG1_4_2, cG1_4_3, cG1_4_4, cG1_4_5, cG1_4_6, cG1_4_7⟩ := HG1w3.out.c8 4 (w.heap.size + 1 + 1 + 1 + 1) rfl rfl rfl rfl rfl rfl rfl rfl rfl rfl
    go_wp2_with fail
  · refine bodyPost_ret (v := .tuple #[gtV 0 0 0 none 0 0 0 none 0 0 0 0, tp 0 0 0 0 0, .int .i64 10]) (by simp [results, Tryz.results30, go_sem, *]) rfl ⟨rfl, ?_⟩
    repeat (first | with_reducible refine Below.setCell ?_ (by simp; try omega) _ | exact HG1w3.out.2.2)
  · refine (HF.out _).mono ?_
    rintro e w4 ⟨rfl, hb⟩
    have HG1w4 := hide (HG1w3.out.on hb)
    clear lG1_1 cG1_1_0 cG1_1_1 cG1_1_2 cG1_1_3 cG1_1_4 cG1_1_5 lG1_2 cG1_2_0 fG1_2_0 cG1_2_1 fG1_2_1 cG1_2_2 fG1_2_2 cG1_2_3 fG1_2_3 cG1_2_4 fG1_2_4 cG1_2_5 fG1_2_5 cG1_2_6 fG1_2_6 cG1_2_7 fG1_2_7 lG1_3 cG1_3_0 fG1_3_0 cG1_3_1 fG1_3_1 cG1_3_2 fG1_3_2 cG1_3_3 fG1_3_3 cG1_3_4 fG1_3_4 lG1_4 cG1_4_0 cG1_4_1 cG1_4_2 cG1_4_3 cG1_4_4 cG1_4_5 cG1_4_6 cG1_4_7
    clear hb HG1w3
    have lG1_1 := HG1w4.out.lt 1 (w.heap.size + 1) (by simp) rfl
    obtain ⟨cG1_1_0, cG1_1_1, cG1_1_2, cG1_1_3, cG1_1_4, cG1_1_5⟩ := HG1w4.out.c6 1 (w.heap.size + 1) rfl rfl rfl rfl rfl rfl rfl rfl
    have lG1_2 := HG1w4.out.lt 2 (w.heap.size + 1 + 1) (by simp) rfl
    obtain ⟨cG1_2_0, cG1_2_1, cG1_2_2, cG1_2_3, cG1_2_4, cG1_2_5, cG1_2_6, cG1_2_7⟩ := HG1w4.out.c8 2 (w.heap.size + 1 + 1) rfl rfl rfl rfl rfl rfl rfl rfl rfl rfl
    obtain ⟨fG1_2_0, fG1_2_1, fG1_2_2, fG1_2_3, fG1_2_4, fG1_2_5, fG1_2_6, fG1_2_7⟩ := HG1w4.out.z8 2 (w.heap.size + 1 + 1) rfl rfl
    have lG1_3 := HG1w4.out.lt 3 (w.heap.size + 1 + 1 + 1) (by simp) rfl
    obtain ⟨cG1_3_0, cG1_3_1, cG1_3_2, cG1_3_3, cG1_3_4⟩ := HG1w4.out.c5 3 (w.heap.size + 1 + 1 + 1) rfl rfl rfl rfl rfl rfl rfl
    obtain ⟨fG1_3_0, fG1_3_1, fG1_3_2, fG1_3_3, fG1_3_4⟩ := HG1w4.out.z5 3 (w.heap.size + 1 + 1 + 1) rfl rfl
    have lG1_4 := HG1w4.out.lt 4 (w.heap.size + 1 + 1 + 1 + 1) (by simp) rfl
    obtain ⟨cG1_4_0, cG1_4_1, cG1_4_2, cG1_4_3, cG1_4_4, cG1_4_5, cG1_4_6, cG1_4_7⟩ := HG1w4.out.c8 4 (w.heap.size + 1 + 1 + 1 + 1) rfl rfl rfl rfl rfl rfl rfl rfl rfl rfl
    go_wp2_with fail
    refine bodyPost_ret (v := .tuple #[gtV 0 0 0 none 0 0 0 none 0 0 0 0, tp 0 0 0 0 0, .int .i64 2]) (by simp [results, Tryz.results30, go_sem, *]) rfl ⟨rfl, ?_⟩
    repeat (first | with_reducible refine Below.setCell ?_ (by simp; try omega) _ | exact HG1w4.out.2.2)
end Go.Proofs.YtcjfmbeemdcklaaGreat

/-
  'Tap' (package gate), where it lets through.
-/
namespace Go.Proofs.YtcjfmbeemdcklaaGreat
open Go.RowKit
set_option maxHeartbeats 6400000 in
theorem gateTap_ok (i z s : Int) (oa : Option Addr) (P : List TP) (ca : Nat) (v : Int) (od : Option Addr) (D : List Int) (cd : Nat) (l u : Int) (ti k f t y r m : Int) (w : World) (hP : TapsAt w oa P) (hD : IntsAt w od D) (hlP : P.length ≤ 9223372036854775807) (hlD : D.length ≤ 9223372036854775807) (hn : oa = none → ca = 0) (hE : tapG i z s P v D l u ⟨ti, k, f, t, y, r⟩ m = 0) :
    Calls Tryz.prog 30 #[gtV i z s oa P.length ca v od D.length cd l u, tk ti k f t y r, .int .i64 m] w fun e w' => (∃ x, e = .returned (.tuple #[x, tp ti i (s + 1) m z, .int .i64 0]) ∧ GateF w.heap.size w' x i z (s + 1) (P ++ [⟨ti, i, s + 1, m, z⟩]) v D (l - 1) u) ∧ Below w.heap.size w w' := by
  have HU := hide (fun W (h : TapsAt W oa P) (h' : IntsAt W od D) => gateUnfit_any i z s oa P ca v od D cd l u ti k f t y r m W h h' hlD)
  have HS := hide (fun W (h0 : unfG i z s P v D l u ⟨ti, k, f, t, y, r⟩ m = 0) (h' : IntsAt W od D) => gateShut_any i z s oa P ca v od D cd l u ti k f t y r m W h' hlD (unfG_more h0).1 (unfG_more h0).2.1 (unfG_more h0).2.2.1 (unfG_more h0).2.2.2.1)
  have HN := hide (fun W (h : TapsAt W oa P) => gateSpent_any i z s oa P ca v od D cd l u ti k f t y r W h hlP)
  have HF := hide (fun W => fullG_any i z s oa P.length ca v od D.length cd l u W)
  have HP := hide hP
  have HD := hide hD
  clear hP hD
  have hp := tapG_ways i z s P v D l u ⟨ti, k, f, t, y, r⟩ m
  rw [hE] at hp
  have hu : unfG i z s P v D l u ⟨ti, k, f, t, y, r⟩ m = 0 := by
    rcases hp with ⟨h1, h2⟩ | h | h | h | h
    · exact h2.symm
    all_goals exact h.1
  obtain ⟨-, -, -, -, m1, m2, m3, m4, m5, m6⟩ := unfG_more hu
  have HX := hide (fun W => gateNext_any i z s oa P ca v od D cd l u ti k f t y r m W m1 m2)
  have HW := hide (fun W (h : TapsAt W oa P) (h' : IntsAt W od D) => gateWith_any i z s oa P ca v od D cd l u ti i (s + 1) m z W h h' m3 m4 hn m5 m6)
  clear hE hu
  generalize P ++ [(⟨ti, i, s + 1, m, z⟩ : TP)] = M at *
  generalize unfG i z s P v D l u ⟨ti, k, f, t, y, r⟩ m = X1 at *
  generalize shutG D u z ⟨ti, k, f, t, y, r⟩ m = X2 at *
  generalize spentG P l ⟨ti, k, f, t, y, r⟩ = X3 at *
  generalize fullG P.length s = X4 at *
  clear m1 m2 m3 m4 m5 m6
  rcases hp with ⟨h1, rfl⟩ | ⟨rfl, h1, rfl⟩ | ⟨rfl, rfl, rfl, h⟩ | ⟨rfl, rfl, rfl, rfl, h⟩ | ⟨rfl, rfl, rfl, rfl, -⟩
  · cases h1
  · cases h1
  · cases h
  · cases h
  · go_enter Tryz.func30, Tryz.ntmps30
    go_wp2_with fail
    have HG1 := hide ((((((Blks.nil w).more (.cells #[.int .i64 i, .int .i64 z, .int .i64 s, .slice oa P.length ca, .int .i64 v, .slice od D.length cd, .int .i64 l, .int .i64 u] 49) (by simp)).more (.cells #[.int .i64 ti, .int .i64 k, .int .i64 f, .int .i64 t, .int .i64 y, .int .i64 r] 34) (by simp)).more (.cells #[.int .i64 0, .int .i64 0, .int .i64 0, .slice none 0 0, .int .i64 0, .slice none 0 0, .int .i64 0, .int .i64 0] 49) (by simp)).more (.cells #[.int .i64 0, .int .i64 0, .int .i64 0, .int .i64 0, .int .i64 0] 58) (by simp)).more (.cells #[.int .i64 i, .int .i64 z, .int .i64 s, .slice oa P.length ca, .int .i64 v, .slice od D.length cd, .int .i64 l, .int .i64 u] 124) (by simp))
    refine (HU.out _ (HP.out.below HG1.out.2.2) (HD.out.below HG1.out.2.2)).mono ?_
    rintro e w1 ⟨rfl, hb⟩
    have HG1w1 := hide (HG1.out.on hb)
    clear hb HG1
    have lG1_1 := HG1w1.out.lt 1 (w.heap.size + 1) (by simp) rfl
    obtain ⟨cG1_1_0, cG1_1_1, cG1_1_2, cG1_1_3, cG1_1_4, cG1_1_5⟩ := HG1w1.out.c6 1 (w.heap.size + 1) rfl rfl rfl rfl rfl rfl rfl rfl
    have lG1_2 := HG1w1.out.lt 2 (w.heap.size + 1 + 1) (by simp) rfl
    obtain ⟨cG1_2_0, cG1_2_1, cG1_2_2, cG1_2_3, cG1_2_4, cG1_2_5, cG1_2_6, cG1_2_7⟩ := HG1w1.out.c8 2 (w.heap.size + 1 + 1) rfl rfl rfl rfl rfl rfl rfl rfl rfl rfl
    obtain ⟨fG1_2_0, fG1_2_1, fG1_2_2, fG1_2_3, fG1_2_4, fG1_2_5, fG1_2_6, fG1_2_7⟩ := HG1w1.out.z8 2 (w.heap.size + 1 + 1) rfl rfl
    have lG1_3 := HG1w1.out.lt 3 (w.heap.size + 1 + 1 + 1) (by simp) rfl
    obtain ⟨cG1_3_0, cG1_3_1, cG1_3_2, cG1_3_3, cG1_3_4⟩ := HG1w1.out.c5 3 (w.heap.size + 1 + 1 + 1) rfl rfl rfl rfl rfl rfl rfl
    obtain ⟨fG1_3_0, fG1_3_1, fG1_3_2, fG1_3_3, fG1_3_4⟩ := HG1w1.out.z5 3 (w.heap.size + 1 + 1 + 1) rfl rfl
    have lG1_4 := HG1w1.out.lt 4 (w.heap.size + 1 + 1 + 1 + 1) (by simp) rfl
    obtain ⟨cG1_4_0, cG1_4_1, cG1_4_2, cG1_4_3, cG1_4_4, cG1_4_5, cG1_4_6, cG1_4_7⟩ := HG1w1.out.c8 4 (w.heap.size + 1 + 1 + 1 + 1) rfl rfl rfl rfl rfl rfl rfl rfl rfl rfl
    go_wp2_with fail
    refine (HS.out _ trivial (HD.out.below HG1w1.out.2.2)).mono ?_
    rintro e w2 ⟨rfl, hb⟩
    have HG1w2 := hide (HG1w1.out.on hb)
    clear lG1_1 cG1_1_0 cG1_1_1 cG1_1_2 cG1_1_3 cG1_1_4 cG1_1_5 lG1_2 cG1_2_0 fG1_2_0 cG1_2_1 fG1_2_1 cG1_2_2 fG1_2_2 cG1_2_3 fG1_2_3 cG1_2_4 fG1_2_4 cG1_2_5 fG1_2_5 cG1_2_6 fG1_2_6 cG1_2_7 fG1_2_7 lG1_3 cG1_3_0 fG1_3_0 cG1_3_1 fG1_3_1 cG1_3_2 fG1_3_2 cG1_3_3 fG1_3_3 cG1_3_4 fG1_3_4 lG1_4 cG1_4_0 cG1_4_1 cG1_4_2 cG1_4_3 cG1_4_4 cG1_4_5 cG1_4_6 cG1_4_7
    clear hb HG1w1
    have lG1_1 := HG1w2.out.lt 1 (w.heap.size + 1) (by simp) rfl
    obtain ⟨cG1_1_0, cG1_1_1, cG1_1_2, cG1_1_3, cG1_1_4, cG1_1_5⟩ := HG1w2.out.c6 1 (w.heap.size + 1) rfl rfl rfl rfl rfl rfl rfl rfl
    have lG1_2 := HG1w2.out.lt 2 (w.heap.size + 1 + 1) (by simp) rfl
    obtain ⟨cG1_2_0, cG1_2_1, cG1_2_2, cG1_2_3, cG1_2_4, cG1_2_5, cG1_2_6, cG1_2_7⟩ := HG1w2.out.c8 2 (w.heap.size + 1 + 1) rfl rfl rfl rfl rfl rfl rfl rfl rfl rfl
    obtain ⟨fG1_2_0, fG1_2_1, fG1_2_2, fG1_2_3, fG1_2_4, fG1_2_5, fG1_2_6, fG1_2_7⟩ := HG1w2.out.z8 2 (w.heap.size + 1 + 1) rfl rfl
    have lG1_3 := HG1w2.out.lt 3 (w.heap.size + 1 + 1 + 1) (by simp) rfl
    obtain ⟨cG1_3_0, cG1_3_1, cG1_3_2, cG1_3_3, cG1_3_4⟩ := HG1w2.out.c5 3 (w.heap.size + 1 + 1 + 1) rfl rfl rfl rfl rfl rfl rfl
    obtain ⟨fG1_3_0, fG1_3_1, fG1_3_2, fG1_3_3, fG1_3_4⟩ := HG1w2.out.z5 3 (w.heap.size + 1 + 1 + 1) rfl rfl
    have lG1_4 := HG1w2.out.lt 4 (w.heap.size + 1 + 1 + 1 + 1) (by simp) rfl
    obtain ⟨cG1_4_0, cG1_4_1, cG1_4_2, cG1_4_3, cG1_4_4, cG1_4_5, cG1_4_6, cG1_4_7⟩ := HG1w2.out.c8 4 (w.heap.size + 1 + 1 + 1 + 1) rfl rfl rfl rfl rfl rfl rfl rfl rfl rfl
    go_wp2_with fail
    refine (HN.out _ (HP.out.below HG1w2.out.2.2)).mono ?_
    rintro e w3 ⟨rfl, hb⟩
    have HG1w3 := hide (HG1w2.out.on hb)
    clear lG1_1 cG1_1_0 cG1_1_1 cG1_1_2 cG1_1_3 cG1_1_4 cG1_1_5 lG1_2 cG1_2_0 fG1_2_0 cG1_2_1 fG1_2_1 cG1_2_2 fG1_2_2 cG1_2_3 fG1_2_3 cG1_2_4 fG1_2_4 cG1_2_5 fG1_2_5 cG1_2_6 fG1_2_6 cG1_2_7 fG1_2_7 lG1_3 cG1_3_0 fG1_3_0 cG1_3_1 fG1_3_1 cG1_3_2 fG1_3_2 cG1_3_3 fG1_3_3 cG1_3_4 fG1_3_4 lG1_4 cG1_4_0 cG1_4_1 cG1_4_2 cG1_4_3 cG1_4_4 cG1_4_5 cG1_4_6 cG1_4_7
    clear hb HG1w2
    have lG1_1 := HG1w3.out.lt 1 (w.heap.size + 1) (by simp) rfl
    obtain ⟨cG1_1_0, cG1_1_1, cG1_1_2, cG1_1_3, cG1_1_4, cG1_1_5⟩ := HG1w3.out.c6 1 (w.heap.size + 1) rfl rfl rfl rfl rfl rfl rfl rfl
    have lG1_2 := HG1w3.out.lt 2 (w.heap.size + 1 + 1) (by simp) rfl
    obtain ⟨cG1_2_0, cG1_2_1, cG1_2_2, cG1_2_3, cG1_2_4, cG1_2_5, cG1_2_6, cG1_2_7⟩ := HG1w3.out.c8 2 (w.heap.size + 1 + 1) rfl rfl rfl rfl rfl rfl rfl rfl rfl rfl
    obtain ⟨fG1_2_0, fG1_2_1, fG1_2_2, fG1_2_3, fG1_2_4, fG1_2_5, fG1_2_6, fG1_2_7⟩ := HG1w3.out.z8 2 (w.heap.size + 1 + 1) rfl rfl
    have lG1_3 := HG1w3.out.lt 3 (w.heap.size + 1 + 1 + 1) (by simp) rfl
    obtain ⟨cG1_3_0, cG1_3_1, cG1_3_2, cG1_3_3, cG1_3_4⟩ := HG1w3.out.c5 3 (w.heap.size + 1 + 1 + 1) rfl rfl rfl rfl rfl rfl rfl
    obtain ⟨fG1_3_0, fG1_3_1, fG1_3_2, fG1_3_3, fG1_3_4⟩ := HG1w3.out.z5 3 (w.heap.size + 1 + 1 + 1) rfl rfl
    have lG1_4 := HG1w3.out.lt 4 (w.heap.size + 1 + 1 + 1 + 1) (by simp) rfl
    obtain ⟨cG1_4_0, cG1_4_1, cG1_4_2, cG1_4_3, cG1_4_4, cG1_4_5, cG1_4_6, cG1_4_7⟩ := HG1w3.out.c8 4 (w.heap.size + 1 + 1 + 1 + 1) rfl rfl rfl rfl rfl rfl rfl rfl rfl rfl
    go_wp2_with fail
    refine (HF.out _).mono ?_
    rintro e w4 ⟨rfl, hb⟩
    have HG1w4 := hide (HG1w3.out.on hb)
    clear lG1_1 cG1_1_0 cG1_1_1 cG1_1_2 cG1_1_3 cG1_1_4 cG1_1_5 lG1_2 cG1_2_0 fG1_2_0 cG1_2_1 fG1_2_1 cG1_2_2 fG1_2_2 cG1_2_3 fG1_2_3 cG1_2_4 fG1_2_4 cG1_2_5 fG1_2_5 cG1_2_6 fG1_2_6 cG1_2_7 fG1_2_7 lG1_3 cG1_3_0 fG1_3_0 cG1_3_1 fG1_3_1 cG1_3_2 fG1_3_2 cG1_3_3 fG1_3_3 cG1_3_4 fG1_3_4 lG1_4 cG1_4_0 cG1_4_1 cG1_4_2 cG1_4_3 cG1_4_4 cG1_4_5 cG1_4_6 cG1_4_7
    clear hb HG1w3
    have lG1_1 := HG1w4.out.lt 1 (w.heap.size + 1) (by simp) rfl
    obtain ⟨cG1_1_0, cG1_1_1, cG1_1_2, cG1_1_3, cG1_1_4, cG1_1_5⟩ := HG1w4.out.c6 1 (w.heap.size + 1) rfl rfl rfl rfl rfl rfl rfl rfl
    have lG1_2 := HG1w4.out.lt 2 (w.heap.size + 1 + 1) (by simp) rfl
    obtain ⟨cG1_2_0, cG1_2_1, cG1_2_2, cG1_2_3, cG1_2_4, cG1_2_5, cG1_2_6, cG1_2_7⟩ := HG1w4.out.c8 2 (w.heap.size + 1 + 1) rfl rfl rfl rfl rfl rfl rfl rfl rfl rfl
    obtain ⟨fG1_2_0, fG1_2_1, fG1_2_2, fG1_2_3, fG1_2_4, fG1_2_5, fG1_2_6, fG1_2_7⟩ := HG1w4.out.z8 2 (w.heap.size + 1 + 1) rfl rfl
    have lG1_3 := HG1w4.out.lt 3 (w.heap.size + 1 + 1 + 1) (by simp) rfl
    obtain ⟨cG1_3_0, cG1_3_1, cG1_3_2, cG1_3_3, cG1_3_4⟩ := HG1w4.out.c5 3 (w.heap.size + 1 + 1 + 1) rfl rfl rfl rfl rfl rfl rfl
    obtain ⟨fG1_3_0, fG1_3_1, fG1_3_2, fG1_3_3, fG1_3_4⟩ := HG1w4.out.z5 3 (w.heap.size + 1 + 1 + 1) rfl rfl
    have lG1_4 := HG1w4.out.lt 4 (w.heap.size + 1 + 1 + 1 + 1) (by simp) rfl
    obtain ⟨cG1_4_0, cG1_4_1, cG1_4_2, cG1_4_3, cG1_4_4, cG1_4_5, cG1_4_6, cG1_4_7⟩ := HG1w4.out.c8 4 (w.heap.size + 1 + 1 + 1 + 1) rfl rfl rfl rfl rfl rfl rfl rfl rfl rfl
    go_wp2_with fail
    refine (HX.out _).mono ?_
    rintro e w5 ⟨rfl, hb⟩
    have HG1w5 := hide (HG1w4.out.on hb)
    clear lG1_1 cG1_1_0 cG1_1_1 cG1_1_2 cG1_1_3 cG1_1_4 cG1_1_5 lG1_2 cG1_2_0 fG1_2_0 cG1_2_1 fG1_2_1 cG1_2_2 fG1_2_2 cG1_2_3 fG1_2_3 cG1_2_4 fG1_2_4 cG1_2_5 fG1_2_5 cG1_2_6 fG1_2_6 cG1_2_7 fG1_2_7 lG1_3 cG1_3_0 fG1_3_0 cG1_3_1 fG1_3_1 cG1_3_2 fG1_3_2 cG1_3_3 fG1_3_3 cG1_3_4 fG1_3_4 lG1_4 cG1_4_0 cG1_4_1 cG1_4_2 cG1_4_3 cG1_4_4 cG1_4_5 cG1_4_6 cG1_4_7
    clear hb HG1w4
    have lG1_1 := HG1w5.out.lt 1 (w.heap.size + 1) (by simp) rfl
    obtain ⟨cG1_1_0, cG1_1_1, cG1_1_2, cG1_1_3, cG1_1_4, cG1_1_5⟩ := HG1w5.out.c6 1 (w.heap.size + 1) rfl rfl rfl rfl rfl rfl rfl rfl
    have lG1_2 := HG1w5.out.lt 2 (w.heap.size + 1 + 1) (by simp) rfl
    obtain ⟨cG1_2_0, cG1_2_1, cG1_2_2, cG1_2_3, cG1_2_4, cG1_2_5, cG1_2_6, cG1_2_7⟩ := HG1w5.out.c8 2 (w.heap.size + 1 + 1) rfl rfl rfl rfl rfl rfl rfl rfl rfl rfl
    obtain ⟨fG1_2_0, fG1_2_1, fG1_2_2, fG1_2_3, fG1_2_4, fG1_2_5, fG1_2_6, fG1_2_7⟩ := HG1w5.out.z8 2 (w.heap.size + 1 + 1) rfl rfl
    have lG1_3 := HG1w5.out.lt 3 (w.heap.size + 1 + 1 + 1) (by simp) rfl
    obtain ⟨cG1_3_0, cG1_3_1, cG1_3_2, cG1_3_3, cG1_3_4⟩ := HG1w5.out.c5 3 (w.heap.size + 1 + 1 + 1) rfl rfl rfl rfl rfl rfl rfl
    obtain ⟨fG1_3_0, fG1_3_1, fG1_3_2, fG1_3_3, fG1_3_4⟩ := HG1w5.out.z5 3 (w.heap.size + 1 + 1 + 1) rfl rfl
    have lG1_4 := HG1w5.out.lt 4 (w.heap.size + 1 + 1 + 1 + 1) (by simp) rfl
    obtain ⟨cG1_4_0, cG1_4_1, cG1_4_2, cG1_4_3, cG1_4_4, cG1_4_5, cG1_4_6, cG1_4_7⟩ := HG1w5.out.c8 4 (w.heap.size + 1 + 1 + 1 + 1) rfl rfl rfl rfl rfl rfl rfl rfl rfl rfl
    go_wp2_with fail
    clear lG1_1 cG1_1_0 cG1_1_1 cG1_1_2 cG1_1_3 cG1_1_4 cG1_1_5 lG1_2 cG1_2_0 fG1_2_0 cG1_2_1 fG1_2_1 cG1_2_2 fG1_2_2 cG1_2_3 fG1_2_3 cG1_2_4 fG1_2_4 cG1_2_5 fG1_2_5 cG1_2_6 fG1_2_6 cG1_2_7 fG1_2_7 lG1_3 cG1_3_0 fG1_3_0 cG1_3_1 fG1_3_1 cG1_3_2 fG1_3_2 cG1_3_3 fG1_3_3 cG1_3_4 fG1_3_4 lG1_4 cG1_4_0 cG1_4_1 cG1_4_2 cG1_4_3 cG1_4_4 cG1_4_5 cG1_4_6 cG1_4_7
    have HQ := hide ((Blks.nil w5).more (.cells #[.int .i64 ti, .int .i64 i, .int .i64 (s + 1), .int .i64 m, .int .i64 z] 58) (by simp))
    have HG1w5sz := HG1w5.out.2.1
    simp only [List.length_append, List.length_cons, List.length_nil] at HG1w5sz
    have HGa : Hid (Blks w _ [.cells #[.int .i64 i, .int .i64 z, .int .i64 s, .slice oa P.length ca, .int .i64 v, .slice od D.length cd, .int .i64 l, .int .i64 u] 49, .cells #[.int .i64 ti, .int .i64 k, .int .i64 f, .int .i64 t, .int .i64 y, .int .i64 r] 34, .cells #[.int .i64 0, .int .i64 0, .int .i64 0, .slice none 0 0, .int .i64 0, .slice none 0 0, .int .i64 0, .int .i64 0] 49, .cells #[.int .i64 0, .int .i64 0, .int .i64 0, .int .i64 0, .int .i64 0] 58, .cells #[.int .i64 i, .int .i64 z, .int .i64 s, .slice oa P.length ca, .int .i64 v, .slice od D.length cd, .int .i64 l, .int .i64 u] 124]) := hide ((HG1w5.out.on HQ.out.2.2).on (Below.refl _ _).drew)
    have hQx := HQ.out.on (Below.refl _ _).drew
    have HQa : Hid (Tap5 (w5.alloc (.cells #[.int .i64 ti, .int .i64 i, .int .i64 (s + 1), .int .i64 m, .int .i64 z] 58)).drew ⟨w5.heap.size, 0, none⟩ ⟨ti, i, s + 1, m, z⟩) := hide ⟨hQx.cell 0 0 w5.heap.size _ _ _ rfl rfl rfl, hQx.cell 0 1 w5.heap.size _ _ _ rfl rfl rfl, hQx.cell 0 2 w5.heap.size _ _ _ rfl rfl rfl, hQx.cell 0 3 w5.heap.size _ _ _ rfl rfl rfl, hQx.cell 0 4 w5.heap.size _ _ _ rfl rfl rfl⟩
    clear hQx
    clear HU HS HN HF HX
    refine wp_region_reads (fun w' => (∃ oo2 oo3, Blks w w' [.cells #[.int .i64 i, .int .i64 z, .int .i64 s, .slice oa P.length ca, .int .i64 v, .slice od D.length cd, .int .i64 l, .int .i64 u] 49, .cells #[.int .i64 ti, .int .i64 k, .int .i64 f, .int .i64 t, .int .i64 y, .int .i64 r] 34, oo2, oo3, .cells #[.int .i64 i, .int .i64 z, .int .i64 s, .slice oa P.length ca, .int .i64 v, .slice od D.length cd, .int .i64 l, .int .i64 u] 124]) ∧ Tap5 w' ⟨w5.heap.size, 0, none⟩ ⟨ti, i, s + 1, m, z⟩) [0, 1, 3] 4 (by rfl) (by kernel_rfl) (by kernel_rfl) (by kernel_rfl) (fun c d v a w h => by cases d <;> exact h) ?_ ?_
    · exact ⟨⟨_, _, HGa.out⟩, HQa.out⟩
    refine wpPureH_step (gtV i z s oa P.length ca v od D.length cd l u) rfl rfl (fun w' hS => ?_) ?_
    · obtain ⟨⟨oo2, oo3, hS1⟩, hS2⟩ := hS
      obtain ⟨k0, k1, k2, k3, k4, k5, k6, k7⟩ := hS1.c8 4 (w.heap.size + 1 + 1 + 1 + 1) rfl rfl rfl rfl rfl rfl rfl rfl rfl rfl
      obtain ⟨q0, q1, q2, q3, q4⟩ := hS2
      simp only [Nat.zero_add] at q0 q1 q2 q3 q4
      go_simp
    refine wpPureH_step (tp ti i (s + 1) m z) rfl rfl (fun w' hS => ?_) ?_
    · obtain ⟨⟨oo2, oo3, hS1⟩, hS2⟩ := hS
      obtain ⟨k0, k1, k2, k3, k4, k5, k6, k7⟩ := hS1.c8 4 (w.heap.size + 1 + 1 + 1 + 1) rfl rfl rfl rfl rfl rfl rfl rfl rfl rfl
      obtain ⟨q0, q1, q2, q3, q4⟩ := hS2
      simp only [Nat.zero_add] at q0 q1 q2 q3 q4
      go_simp
    refine wpPureH_step (tp ti i (s + 1) m z) rfl rfl (fun w' hS => ?_) ?_
    · obtain ⟨⟨oo2, oo3, hS1⟩, hS2⟩ := hS
      obtain ⟨k0, k1, k2, k3, k4, k5, k6, k7⟩ := hS1.c8 4 (w.heap.size + 1 + 1 + 1 + 1) rfl rfl rfl rfl rfl rfl rfl rfl rfl rfl
      obtain ⟨q0, q1, q2, q3, q4⟩ := hS2
      simp only [Nat.zero_add] at q0 q1 q2 q3 q4
      go_simp
    refine wpPureH_nil ?_
    clear HG1w5 HQ
    generalize World.drew _ = wa at *
    refine one_readyH (i := 2) (by kernel_rfl) rfl rfl (fun K hK => ?_)
    go_simp
    refine (HW.out wa (HP.out.below HGa.out.2.2) (HD.out.below HGa.out.2.2)).mono ?_
    rintro e wb ⟨⟨x, rfl, ⟨o1, c1, o2, c2, rfl, hT, hfT, hI, hfI⟩⟩, hb⟩
    have HGb : Hid (Blks w wb [.cells #[.int .i64 i, .int .i64 z, .int .i64 s, .slice oa P.length ca, .int .i64 v, .slice od D.length cd, .int .i64 l, .int .i64 u] 49, .cells #[.int .i64 ti, .int .i64 k, .int .i64 f, .int .i64 t, .int .i64 y, .int .i64 r] 34, .cells #[.int .i64 0, .int .i64 0, .int .i64 0, .slice none 0 0, .int .i64 0, .slice none 0 0, .int .i64 0, .int .i64 0] 49, .cells #[.int .i64 0, .int .i64 0, .int .i64 0, .int .i64 0, .int .i64 0] 58, .cells #[.int .i64 i, .int .i64 z, .int .i64 s, .slice oa P.length ca, .int .i64 v, .slice od D.length cd, .int .i64 l, .int .i64 u] 124]) := hide (HGa.out.on hb)
    have HQb := hide (HQa.out.below hb HQa.out.lt)
    have hsz := HGa.out.2.1
    simp only [List.length_cons, List.length_nil] at hsz
    have HT := hide (And.intro hT (hfT.monoD (show w.heap.size + 1 + 1 + 1 + 1 + 1 ≤ wa.heap.size by omega)))
    have HI := hide (And.intro hI (hfI.monoD (show w.heap.size + 1 + 1 + 1 + 1 + 1 ≤ wa.heap.size by omega)))
    have hsq : w.heap.size + 1 + 1 + 1 + 1 + 1 ≤ w5.heap.size := by have := HG1w5sz; omega
    clear hb hT hfT hI hfI HGa HQa hsz
    refine hK _ _ ⟨⟨_, _, HGb.out⟩, HQb.out⟩ ?_
    clear hK K
    obtain ⟨r0, r1, r2, r3, r4, r5, r6, r7⟩ := HGb.out.c8 2 (w.heap.size + 1 + 1) rfl rfl rfl rfl rfl rfl rfl rfl rfl rfl
    obtain ⟨f0, f1, f2, f3, f4, f5, f6, f7⟩ := HGb.out.z8 2 (w.heap.size + 1 + 1) rfl rfl
    refine one_readyH (i := 4) (by kernel_rfl) rfl rfl (fun K hK => ?_)
    go_simp
    have HGc : Hid (Blks w ((((((((wb.setCell ⟨w.heap.size + 1 + 1, 0, none⟩ (.int .i64 i)).setCell ⟨w.heap.size + 1 + 1, 1, none⟩ (.int .i64 z)).setCell ⟨w.heap.size + 1 + 1, 2, none⟩ (.int .i64 (s + 1))).setCell ⟨w.heap.size + 1 + 1, 3, none⟩ (.slice o1 M.length c1)).setCell ⟨w.heap.size + 1 + 1, 4, none⟩ (.int .i64 v)).setCell ⟨w.heap.size + 1 + 1, 5, none⟩ (.slice o2 D.length c2)).setCell ⟨w.heap.size + 1 + 1, 6, none⟩ (.int .i64 (l - 1))).setCell ⟨w.heap.size + 1 + 1, 7, none⟩ (.int .i64 u)) [.cells #[.int .i64 i, .int .i64 z, .int .i64 s, .slice oa P.length ca, .int .i64 v, .slice od D.length cd, .int .i64 l, .int .i64 u] 49, .cells #[.int .i64 ti, .int .i64 k, .int .i64 f, .int .i64 t, .int .i64 y, .int .i64 r] 34, .cells #[.int .i64 i, .int .i64 z, .int .i64 (s + 1), .slice o1 M.length c1, .int .i64 v, .slice o2 D.length c2, .int .i64 (l - 1), .int .i64 u] 49, .cells #[.int .i64 0, .int .i64 0, .int .i64 0, .int .i64 0, .int .i64 0] 58, .cells #[.int .i64 i, .int .i64 z, .int .i64 s, .slice oa P.length ca, .int .i64 v, .slice od D.length cd, .int .i64 l, .int .i64 u] 124]) := hide (HGb.out.put8 2 (w.heap.size + 1 + 1) _ _ _ _ _ _ _ _ (.int .i64 i) (.int .i64 z) (.int .i64 (s + 1)) (.slice o1 M.length c1) (.int .i64 v) (.slice o2 D.length c2) (.int .i64 (l - 1)) (.int .i64 u) _ rfl rfl)
    have HTc : Hid (TapsV ((((((((wb.setCell ⟨w.heap.size + 1 + 1, 0, none⟩ (.int .i64 i)).setCell ⟨w.heap.size + 1 + 1, 1, none⟩ (.int .i64 z)).setCell ⟨w.heap.size + 1 + 1, 2, none⟩ (.int .i64 (s + 1))).setCell ⟨w.heap.size + 1 + 1, 3, none⟩ (.slice o1 M.length c1)).setCell ⟨w.heap.size + 1 + 1, 4, none⟩ (.int .i64 v)).setCell ⟨w.heap.size + 1 + 1, 5, none⟩ (.slice o2 D.length c2)).setCell ⟨w.heap.size + 1 + 1, 6, none⟩ (.int .i64 (l - 1))).setCell ⟨w.heap.size + 1 + 1, 7, none⟩ (.int .i64 u)) (.slice o1 M.length c1) M) := by
      refine hide ?_
      repeat (first | with_reducible exact HT.out.1 | with_reducible refine TapsV.setD ?_ HT.out.2 (by simp; try omega) _)
    have HIc : Hid (IntsV ((((((((wb.setCell ⟨w.heap.size + 1 + 1, 0, none⟩ (.int .i64 i)).setCell ⟨w.heap.size + 1 + 1, 1, none⟩ (.int .i64 z)).setCell ⟨w.heap.size + 1 + 1, 2, none⟩ (.int .i64 (s + 1))).setCell ⟨w.heap.size + 1 + 1, 3, none⟩ (.slice o1 M.length c1)).setCell ⟨w.heap.size + 1 + 1, 4, none⟩ (.int .i64 v)).setCell ⟨w.heap.size + 1 + 1, 5, none⟩ (.slice o2 D.length c2)).setCell ⟨w.heap.size + 1 + 1, 6, none⟩ (.int .i64 (l - 1))).setCell ⟨w.heap.size + 1 + 1, 7, none⟩ (.int .i64 u)) (.slice o2 D.length c2) D) := by
      refine hide ?_
      repeat (first | with_reducible exact HI.out.1 | with_reducible refine IntsV.setD ?_ HI.out.2 (by simp; try omega) _)
    have HQc : Hid (Tap5 ((((((((wb.setCell ⟨w.heap.size + 1 + 1, 0, none⟩ (.int .i64 i)).setCell ⟨w.heap.size + 1 + 1, 1, none⟩ (.int .i64 z)).setCell ⟨w.heap.size + 1 + 1, 2, none⟩ (.int .i64 (s + 1))).setCell ⟨w.heap.size + 1 + 1, 3, none⟩ (.slice o1 M.length c1)).setCell ⟨w.heap.size + 1 + 1, 4, none⟩ (.int .i64 v)).setCell ⟨w.heap.size + 1 + 1, 5, none⟩ (.slice o2 D.length c2)).setCell ⟨w.heap.size + 1 + 1, 6, none⟩ (.int .i64 (l - 1))).setCell ⟨w.heap.size + 1 + 1, 7, none⟩ (.int .i64 u)) ⟨w5.heap.size, 0, none⟩ ⟨ti, i, s + 1, m, z⟩) := by
      refine hide ?_
      repeat (first | with_reducible exact HQb.out | with_reducible refine Tap5.setne ?_ _ (by simp; omega) _)
    refine hK _ _ ⟨⟨_, _, HGc.out⟩, HQc.out⟩ ?_
    clear hK K HGb HQb r0 f0 r1 f1 r2 f2 r3 f3 r4 f4 r5 f5 r6 f6 r7 f7
    generalize ((((((((wb.setCell ⟨w.heap.size + 1 + 1, 0, none⟩ (.int .i64 i)).setCell ⟨w.heap.size + 1 + 1, 1, none⟩ (.int .i64 z)).setCell ⟨w.heap.size + 1 + 1, 2, none⟩ (.int .i64 (s + 1))).setCell ⟨w.heap.size + 1 + 1, 3, none⟩ (.slice o1 M.length c1)).setCell ⟨w.heap.size + 1 + 1, 4, none⟩ (.int .i64 v)).setCell ⟨w.heap.size + 1 + 1, 5, none⟩ (.slice o2 D.length c2)).setCell ⟨w.heap.size + 1 + 1, 6, none⟩ (.int .i64 (l - 1))).setCell ⟨w.heap.size + 1 + 1, 7, none⟩ (.int .i64 u)) = wc at *
    obtain ⟨r0, r1, r2, r3, r4⟩ := HGc.out.c5 3 (w.heap.size + 1 + 1 + 1) rfl rfl rfl rfl rfl rfl rfl
    obtain ⟨f0, f1, f2, f3, f4⟩ := HGc.out.z5 3 (w.heap.size + 1 + 1 + 1) rfl rfl
    refine one_readyH (i := 5) (by kernel_rfl) rfl rfl (fun K hK => ?_)
    go_simp
    have HGd : Hid (Blks w (((((wc.setCell ⟨w.heap.size + 1 + 1 + 1, 0, none⟩ (.int .i64 ti)).setCell ⟨w.heap.size + 1 + 1 + 1, 1, none⟩ (.int .i64 i)).setCell ⟨w.heap.size + 1 + 1 + 1, 2, none⟩ (.int .i64 (s + 1))).setCell ⟨w.heap.size + 1 + 1 + 1, 3, none⟩ (.int .i64 m)).setCell ⟨w.heap.size + 1 + 1 + 1, 4, none⟩ (.int .i64 z)) [.cells #[.int .i64 i, .int .i64 z, .int .i64 s, .slice oa P.length ca, .int .i64 v, .slice od D.length cd, .int .i64 l, .int .i64 u] 49, .cells #[.int .i64 ti, .int .i64 k, .int .i64 f, .int .i64 t, .int .i64 y, .int .i64 r] 34, .cells #[.int .i64 i, .int .i64 z, .int .i64 (s + 1), .slice o1 M.length c1, .int .i64 v, .slice o2 D.length c2, .int .i64 (l - 1), .int .i64 u] 49, .cells #[.int .i64 ti, .int .i64 i, .int .i64 (s + 1), .int .i64 m, .int .i64 z] 58, .cells #[.int .i64 i, .int .i64 z, .int .i64 s, .slice oa P.length ca, .int .i64 v, .slice od D.length cd, .int .i64 l, .int .i64 u] 124]) := hide (HGc.out.put5 3 (w.heap.size + 1 + 1 + 1) _ _ _ _ _ (.int .i64 ti) (.int .i64 i) (.int .i64 (s + 1)) (.int .i64 m) (.int .i64 z) _ rfl rfl)
    have HTd : Hid (TapsV (((((wc.setCell ⟨w.heap.size + 1 + 1 + 1, 0, none⟩ (.int .i64 ti)).setCell ⟨w.heap.size + 1 + 1 + 1, 1, none⟩ (.int .i64 i)).setCell ⟨w.heap.size + 1 + 1 + 1, 2, none⟩ (.int .i64 (s + 1))).setCell ⟨w.heap.size + 1 + 1 + 1, 3, none⟩ (.int .i64 m)).setCell ⟨w.heap.size + 1 + 1 + 1, 4, none⟩ (.int .i64 z)) (.slice o1 M.length c1) M) := by
      refine hide ?_
      repeat (first | with_reducible exact HTc.out | with_reducible refine TapsV.setD ?_ HT.out.2 (by simp; try omega) _)
    have HId : Hid (IntsV (((((wc.setCell ⟨w.heap.size + 1 + 1 + 1, 0, none⟩ (.int .i64 ti)).setCell ⟨w.heap.size + 1 + 1 + 1, 1, none⟩ (.int .i64 i)).setCell ⟨w.heap.size + 1 + 1 + 1, 2, none⟩ (.int .i64 (s + 1))).setCell ⟨w.heap.size + 1 + 1 + 1, 3, none⟩ (.int .i64 m)).setCell ⟨w.heap.size + 1 + 1 + 1, 4, none⟩ (.int .i64 z)) (.slice o2 D.length c2) D) := by
      refine hide ?_
      repeat (first | with_reducible exact HIc.out | with_reducible refine IntsV.setD ?_ HI.out.2 (by simp; try omega) _)
    have HQd : Hid (Tap5 (((((wc.setCell ⟨w.heap.size + 1 + 1 + 1, 0, none⟩ (.int .i64 ti)).setCell ⟨w.heap.size + 1 + 1 + 1, 1, none⟩ (.int .i64 i)).setCell ⟨w.heap.size + 1 + 1 + 1, 2, none⟩ (.int .i64 (s + 1))).setCell ⟨w.heap.size + 1 + 1 + 1, 3, none⟩ (.int .i64 m)).setCell ⟨w.heap.size + 1 + 1 + 1, 4, none⟩ (.int .i64 z)) ⟨w5.heap.size, 0, none⟩ ⟨ti, i, s + 1, m, z⟩) := by
      refine hide ?_
      repeat (first | with_reducible exact HQc.out | with_reducible refine Tap5.setne ?_ _ (by simp; omega) _)
    refine hK _ _ ⟨⟨_, _, HGd.out⟩, HQd.out⟩ ?_
    clear hK K HGc HQc HTc HIc r0 f0 r1 f1 r2 f2 r3 f3 r4 f4
    generalize (((((wc.setCell ⟨w.heap.size + 1 + 1 + 1, 0, none⟩ (.int .i64 ti)).setCell ⟨w.heap.size + 1 + 1 + 1, 1, none⟩ (.int .i64 i)).setCell ⟨w.heap.size + 1 + 1 + 1, 2, none⟩ (.int .i64 (s + 1))).setCell ⟨w.heap.size + 1 + 1 + 1, 3, none⟩ (.int .i64 m)).setCell ⟨w.heap.size + 1 + 1 + 1, 4, none⟩ (.int .i64 z)) = wd at *
    refine one_readyH (i := 6) (by kernel_rfl) rfl rfl (fun K hK => ?_)
    go_simp
    refine hK _ _ ⟨⟨_, _, HGd.out⟩, HQd.out⟩ ?_
    clear hK K
    refine wpAnyH_done (by kernel_rfl) ?_ _
    obtain ⟨g0, g1, g2, g3, g4, g5, g6, g7⟩ := HGd.out.c8 2 (w.heap.size + 1 + 1) rfl rfl rfl rfl rfl rfl rfl rfl rfl rfl
    obtain ⟨h0, h1, h2, h3, h4⟩ := HGd.out.c5 3 (w.heap.size + 1 + 1 + 1) rfl rfl rfl rfl rfl rfl rfl
    go_wp2_with fail
    refine bodyPost_ret (v := .tuple #[gtV i z (s + 1) o1 M.length c1 v o2 D.length c2 (l - 1) u, tp ti i (s + 1) m z, .int .i64 0]) (by simp [results, Tryz.results30, go_sem, *]) rfl ⟨⟨_, rfl, ⟨o1, c1, o2, c2, rfl, HTd.out, HT.out.2.monoD (by omega), HId.out, HI.out.2.monoD (by omega)⟩⟩, HGd.out.2.2⟩
end Go.Proofs.YtcjfmbeemdcklaaGreat

/-
  'told', 'Sync' (package gate).
-/
namespace Go.Proofs.YtcjfmbeemdcklaaGreat
open Go.RowKit
set_option maxHeartbeats 1600000 in
theorem told_any (i z s : Int) (oa : Option Addr) (P : List TP) (ca : Nat) (v : Int) (od : Option Addr) (D : List Int) (cd : Nat) (l u : Int) (v' : Int) (od' : Option Addr) (nd' cd' : Nat) (m : Int) (w : World) (hm : 0 ≤ m) (hm2 : m ≤ 9999) :
    Calls Tryz.prog 131 #[gtV i z s oa P.length ca v od D.length cd l u, dn v' od' nd' cd', .int .i64 m] w fun e w' => e = .returned (gtV i z s none 0 0 v' od' nd' cd' 9 (m + 100)) ∧ Below w.heap.size w w' := by
  have hwr : IntKind.i64.wrap (m + 100) = m + 100 := by rw [IntKind.wrap_i64]; omega
  go_enter Tryz.func131, Tryz.ntmps131
  go_wp2_with fail
  refine bodyPost_ret (v := gtV i z s none 0 0 v' od' nd' cd' 9 (m + 100)) (by simp [results, Tryz.results131, go_sem]) rfl ⟨rfl, ?_⟩
  exact (((Below.refl _ _).alloc (Nat.le_refl _) _).alloc (by simp) _).alloc (by simp; omega) _
def syncG (i z s : Int) (P : List TP) (v : Int) (D : List Int) (l u v' : Int) (D' : List Int) (m : Int) : Int :=
  if chkG i z s P v D l u = 0 then (if newE v D v' D' = 0 then (if wi m 0 9999 = true then 0 else 3) else newE v D v' D') else chkG i z s P v D l u
theorem syncG_ways (i z s : Int) (P : List TP) (v : Int) (D : List Int) (l u v' : Int) (D' : List Int) (m : Int) : ((chkG i z s P v D l u != 0) = true ∧ syncG i z s P v D l u v' D' m = chkG i z s P v D l u) ∨ (chkG i z s P v D l u = 0 ∧ (newE v D v' D' != 0) = true ∧ syncG i z s P v D l u v' D' m = newE v D v' D') ∨
    (chkG i z s P v D l u = 0 ∧ newE v D v' D' = 0 ∧ wi m 0 9999 = false ∧ syncG i z s P v D l u v' D' m = 3) ∨ (chkG i z s P v D l u = 0 ∧ newE v D v' D' = 0 ∧ wi m 0 9999 = true ∧ syncG i z s P v D l u v' D' m = 0) := by
  rw [syncG]
  by_cases h1 : chkG i z s P v D l u = 0
  · by_cases h2 : newE v D v' D' = 0
    · cases wi m 0 9999 <;> simp [h1, h2]
    · simp [h1, h2]
  · simp [h1]
set_option maxHeartbeats 1200000 in
theorem gateSync_err (i z s : Int) (oa : Option Addr) (P : List TP) (ca : Nat) (v : Int) (od : Option Addr) (D : List Int) (cd : Nat) (l u : Int) (v' : Int) (od' : Option Addr) (D' : List Int) (cd' : Nat) (m : Int) (w : World) (hP : TapsAt w oa P) (hD : IntsAt w od D) (hD' : IntsAt w od' D') (hlD : D.length ≤ 9223372036854775807) (hlD' : D'.length ≤ 9223372036854775807) (hE : syncG i z s P v D l u v' D' m ≠ 0) :
    Calls Tryz.prog 77 #[gtV i z s oa P.length ca v od D.length cd l u, dn v' od' D'.length cd', .int .i64 m] w fun e w' => e = .returned (.tuple #[gtV 0 0 0 none 0 0 0 none 0 0 0 0, .slice none 0 0, .int .i64 (syncG i z s P v D l u v' D' m)]) ∧ Below w.heap.size w w' := by
  have HC := hide (fun W (h : TapsAt W oa P) (h' : IntsAt W od D) => gateCheck_any i z s oa P ca v od D cd l u W h h' hlD)
  have HN := hide (fun W (h : IntsAt W od D) (h' : IntsAt W od' D') => newerF_any v v' D D' od od' cd cd' W h h' hlD hlD')
  have HI := hide (fun W => isTime_any m W)
  have HP := hide hP
  have HD := hide hD
  have HD' := hide hD'
  have hp := syncG_ways i z s P v D l u v' D' m
  generalize syncG i z s P v D l u v' D' m = E at *
  generalize chkG i z s P v D l u = X1 at *
  generalize (if newE v D v' D' = 0 then (if v < v' then v' else v) else 0) = V at *
  generalize (if newE v D v' D' = 0 then (if v < v' then D' else D) else []) = N at *
  generalize newE v D v' D' = X2 at *
  generalize wi m 0 9999 = X3 at *
  clear hP hD hD'
  rcases hp with ⟨h1, rfl⟩ | ⟨rfl, h1, rfl⟩ | ⟨rfl, rfl, rfl, rfl⟩ | ⟨-, -, -, rfl⟩
  rotate_left 3
  · exact absurd rfl hE
  all_goals
    clear hE
    go_enter Tryz.func77, Tryz.ntmps77
    go_wp2_with fail
    have HG1 := hide ((((Blks.nil w).more (.cells #[.int .i64 i, .int .i64 z, .int .i64 s, .slice oa P.length ca, .int .i64 v, .slice od D.length cd, .int .i64 l, .int .i64 u] 49) (by simp)).more (.cells #[.int .i64 v', .slice od' D'.length cd'] 28) (by simp)).more (.cells #[.int .i64 0, .int .i64 0, .int .i64 0, .slice none 0 0, .int .i64 0, .slice none 0 0, .int .i64 0, .int .i64 0] 49) (by simp))
    refine (HC.out _ (HP.out.below HG1.out.2.2) (HD.out.below HG1.out.2.2)).mono ?_
    rintro e w1 ⟨rfl, hb⟩
    have HG1w1 := hide (HG1.out.on hb)
    clear hb HG1
    have lG1_0 := HG1w1.out.lt 0 w.heap.size (by simp) rfl
    obtain ⟨cG1_0_0, cG1_0_1, cG1_0_2, cG1_0_3, cG1_0_4, cG1_0_5, cG1_0_6, cG1_0_7⟩ := HG1w1.out.c8 0 w.heap.size rfl rfl rfl rfl rfl rfl rfl rfl rfl rfl
    have lG1_1 := HG1w1.out.lt 1 (w.heap.size + 1) (by simp) rfl
    obtain ⟨cG1_1_0, cG1_1_1⟩ := HG1w1.out.c2 1 (w.heap.size + 1) rfl rfl rfl rfl
    have lG1_2 := HG1w1.out.lt 2 (w.heap.size + 1 + 1) (by simp) rfl
    obtain ⟨cG1_2_0, cG1_2_1, cG1_2_2, cG1_2_3, cG1_2_4, cG1_2_5, cG1_2_6, cG1_2_7⟩ := HG1w1.out.c8 2 (w.heap.size + 1 + 1) rfl rfl rfl rfl rfl rfl rfl rfl rfl rfl
    obtain ⟨fG1_2_0, fG1_2_1, fG1_2_2, fG1_2_3, fG1_2_4, fG1_2_5, fG1_2_6, fG1_2_7⟩ := HG1w1.out.z8 2 (w.heap.size + 1 + 1) rfl rfl
    go_wp2_with fail
  · refine bodyPost_ret (v := .tuple #[gtV 0 0 0 none 0 0 0 none 0 0 0 0, .slice none 0 0, .int .i64 E]) (by simp [results, Tryz.results77, go_sem, *]) rfl ⟨rfl, ?_⟩
    repeat (first | with_reducible refine Below.setCell ?_ (by simp; try omega) _ | with_reducible refine Below.alloc ?_ (by simp; omega) _)
    exact HG1w1.out.2.2
  all_goals
    refine (HN.out _ (HD.out.below HG1w1.out.2.2) (HD'.out.below HG1w1.out.2.2)).mono ?_
    rintro e w2 ⟨⟨x, rfl, ⟨on, cn, rfl, hI⟩, hf⟩, hb⟩
    have HG1w2 := hide (HG1w1.out.on hb)
    clear hI hf
    clear lG1_0 cG1_0_0 cG1_0_1 cG1_0_2 cG1_0_3 cG1_0_4 cG1_0_5 cG1_0_6 cG1_0_7 lG1_1 cG1_1_0 cG1_1_1 lG1_2 cG1_2_0 fG1_2_0 cG1_2_1 fG1_2_1 cG1_2_2 fG1_2_2 cG1_2_3 fG1_2_3 cG1_2_4 fG1_2_4 cG1_2_5 fG1_2_5 cG1_2_6 fG1_2_6 cG1_2_7 fG1_2_7
    clear hb HG1w1
    have lG1_0 := HG1w2.out.lt 0 w.heap.size (by simp) rfl
    obtain ⟨cG1_0_0, cG1_0_1, cG1_0_2, cG1_0_3, cG1_0_4, cG1_0_5, cG1_0_6, cG1_0_7⟩ := HG1w2.out.c8 0 w.heap.size rfl rfl rfl rfl rfl rfl rfl rfl rfl rfl
    have lG1_1 := HG1w2.out.lt 1 (w.heap.size + 1) (by simp) rfl
    obtain ⟨cG1_1_0, cG1_1_1⟩ := HG1w2.out.c2 1 (w.heap.size + 1) rfl rfl rfl rfl
    have lG1_2 := HG1w2.out.lt 2 (w.heap.size + 1 + 1) (by simp) rfl
    obtain ⟨cG1_2_0, cG1_2_1, cG1_2_2, cG1_2_3, cG1_2_4, cG1_2_5, cG1_2_6, cG1_2_7⟩ := HG1w2.out.c8 2 (w.heap.size + 1 + 1) rfl rfl rfl rfl rfl rfl rfl rfl rfl rfl
    obtain ⟨fG1_2_0, fG1_2_1, fG1_2_2, fG1_2_3, fG1_2_4, fG1_2_5, fG1_2_6, fG1_2_7⟩ := HG1w2.out.z8 2 (w.heap.size + 1 + 1) rfl rfl
    go_wp2_with fail
  · refine bodyPost_ret (v := .tuple #[gtV 0 0 0 none 0 0 0 none 0 0 0 0, .slice none 0 0, .int .i64 E]) (by simp [results, Tryz.results77, go_sem, *]) rfl ⟨rfl, ?_⟩
    repeat (first | with_reducible refine Below.setCell ?_ (by simp; try omega) _ | with_reducible refine Below.alloc ?_ (by simp; omega) _)
    exact HG1w2.out.2.2
  · refine (HI.out _).mono ?_
    rintro e w3 ⟨rfl, rfl⟩
    go_wp2_with fail
    refine bodyPost_ret (v := .tuple #[gtV 0 0 0 none 0 0 0 none 0 0 0 0, .slice none 0 0, .int .i64 3]) (by simp [results, Tryz.results77, go_sem, *]) rfl ⟨rfl, ?_⟩
    repeat (first | with_reducible refine Below.setCell ?_ (by simp; try omega) _ | with_reducible refine Below.alloc ?_ (by simp; omega) _)
    exact HG1w2.out.2.2
set_option maxHeartbeats 1200000 in
theorem gateSync_ok (i z s : Int) (oa : Option Addr) (P : List TP) (ca : Nat) (v : Int) (od : Option Addr) (D : List Int) (cd : Nat) (l u : Int) (v' : Int) (od' : Option Addr) (D' : List Int) (cd' : Nat) (m : Int) (w : World) (hP : TapsAt w oa P) (hD : IntsAt w od D) (hD' : IntsAt w od' D') (hlD : D.length ≤ 9223372036854775807) (hlD' : D'.length ≤ 9223372036854775807) (hlP : P.length ≤ 12) (hE : syncG i z s P v D l u v' D' m = 0) :
    Calls Tryz.prog 77 #[gtV i z s oa P.length ca v od D.length cd l u, dn v' od' D'.length cd', .int .i64 m] w fun e w' =>
      (∃ on cn x, e = .returned (.tuple #[gtV i z s none 0 0 (if v < v' then v' else v) on (if v < v' then D' else D).length cn 9 (m + 100), x, .int .i64 0]) ∧ IntsV w' (.slice on (if v < v' then D' else D).length cn) (if v < v' then D' else D) ∧ Fresh w.heap.size (.slice on (if v < v' then D' else D).length cn) ∧ TapsV w' x P ∧ Fresh w.heap.size x) ∧ Below w.heap.size w w' := by
  have HC := hide (fun W (h : TapsAt W oa P) (h' : IntsAt W od D) => gateCheck_any i z s oa P ca v od D cd l u W h h' hlD)
  have HN := hide (fun W (h : IntsAt W od D) (h' : IntsAt W od' D') => newerF_any v v' D D' od od' cd cd' W h h' hlD hlD')
  have HI := hide (fun W => isTime_any m W)
  have HP := hide hP
  have HD := hide hD
  have HD' := hide hD'
  have hp := syncG_ways i z s P v D l u v' D' m
  rw [hE] at hp
  have hpp : chkG i z s P v D l u = 0 ∧ newE v D v' D' = 0 ∧ wi m 0 9999 = true := by
    rcases hp with ⟨h1, h2⟩ | ⟨h1, h2, h3⟩ | ⟨h1, h2, h3, h4⟩ | ⟨h1, h2, h3, h4⟩
    · rw [← h2] at h1; cases h1
    · rw [← h3] at h2; cases h2
    · cases h4
    · exact ⟨h1, h2, h3⟩
  obtain ⟨h1, h2, h3⟩ := hpp
  have hm := (wi_iff _ _ _).1 h3
  have HTo := hide (fun W on nn cn => told_any i z s oa P ca v od D cd l u (if v < v' then v' else v) on nn cn m W hm.1 hm.2)
  rw [h1] at HC
  rw [h2, if_pos rfl, if_pos rfl] at HN
  rw [h3] at HI
  generalize (if v < v' then v' else v) = V at *
  generalize (if v < v' then D' else D) = N at *
  clear hP hD hD' hE hp h1 h2 h3 hm
  go_enter Tryz.func77, Tryz.ntmps77
  go_wp2_with fail
  have HG1 := hide ((((Blks.nil w).more (.cells #[.int .i64 i, .int .i64 z, .int .i64 s, .slice oa P.length ca, .int .i64 v, .slice od D.length cd, .int .i64 l, .int .i64 u] 49) (by simp)).more (.cells #[.int .i64 v', .slice od' D'.length cd'] 28) (by simp)).more (.cells #[.int .i64 0, .int .i64 0, .int .i64 0, .slice none 0 0, .int .i64 0, .slice none 0 0, .int .i64 0, .int .i64 0] 49) (by simp))
  refine (HC.out _ (HP.out.below HG1.out.2.2) (HD.out.below HG1.out.2.2)).mono ?_
  rintro e w1 ⟨rfl, hb⟩
  have HG1w1 := hide (HG1.out.on hb)
  clear hb HG1
  have lG1_0 := HG1w1.out.lt 0 w.heap.size (by simp) rfl
  obtain ⟨cG1_0_0, cG1_0_1, cG1_0_2, cG1_0_3, cG1_0_4, cG1_0_5, cG1_0_6, cG1_0_7⟩ := HG1w1.out.c8 0 w.heap.size rfl rfl rfl rfl rfl rfl rfl rfl rfl rfl
  have lG1_1 := HG1w1.out.lt 1 (w.heap.size + 1) (by simp) rfl
  obtain ⟨cG1_1_0, cG1_1_1⟩ := HG1w1.out.c2 1 (w.heap.size + 1) rfl rfl rfl rfl
  have lG1_2 := HG1w1.out.lt 2 (w.heap.size + 1 + 1) (by simp) rfl
  obtain ⟨cG1_2_0, cG1_2_1, cG1_2_2, cG1_2_3, cG1_2_4, cG1_2_5, cG1_2_6, cG1_2_7⟩ := HG1w1.out.c8 2 (w.heap.size + 1 + 1) rfl rfl rfl rfl rfl rfl rfl rfl rfl rfl
  obtain ⟨fG1_2_0, fG1_2_1, fG1_2_2, fG1_2_3, fG1_2_4, fG1_2_5, fG1_2_6, fG1_2_7⟩ := HG1w1.out.z8 2 (w.heap.size + 1 + 1) rfl rfl
  go_wp2_with fail
  refine (HN.out _ (HD.out.below HG1w1.out.2.2) (HD'.out.below HG1w1.out.2.2)).mono ?_
  rintro e w2 ⟨⟨x, rfl, ⟨on, cn, rfl, hI⟩, hf⟩, hb⟩
  have HG1w2 := hide (HG1w1.out.on hb)
  have hsz1 := HG1w1.out.2.1
  simp only [List.length_append, List.length_cons, List.length_nil] at hsz1
  have HV := hide (And.intro (show IntsV w2 (.slice on N.length cn) N from ⟨on, cn, rfl, hI⟩) (hf.monoD (show w.heap.size + 1 + 1 + 1 ≤ w1.heap.size by omega)))
  clear hI hf hsz1
  clear lG1_0 cG1_0_0 cG1_0_1 cG1_0_2 cG1_0_3 cG1_0_4 cG1_0_5 cG1_0_6 cG1_0_7 lG1_1 cG1_1_0 cG1_1_1 lG1_2 cG1_2_0 fG1_2_0 cG1_2_1 fG1_2_1 cG1_2_2 fG1_2_2 cG1_2_3 fG1_2_3 cG1_2_4 fG1_2_4 cG1_2_5 fG1_2_5 cG1_2_6 fG1_2_6 cG1_2_7 fG1_2_7
  clear hb HG1w1
  have lG1_0 := HG1w2.out.lt 0 w.heap.size (by simp) rfl
  obtain ⟨cG1_0_0, cG1_0_1, cG1_0_2, cG1_0_3, cG1_0_4, cG1_0_5, cG1_0_6, cG1_0_7⟩ := HG1w2.out.c8 0 w.heap.size rfl rfl rfl rfl rfl rfl rfl rfl rfl rfl
  have lG1_1 := HG1w2.out.lt 1 (w.heap.size + 1) (by simp) rfl
  obtain ⟨cG1_1_0, cG1_1_1⟩ := HG1w2.out.c2 1 (w.heap.size + 1) rfl rfl rfl rfl
  have lG1_2 := HG1w2.out.lt 2 (w.heap.size + 1 + 1) (by simp) rfl
  obtain ⟨cG1_2_0, cG1_2_1, cG1_2_2, cG1_2_3, cG1_2_4, cG1_2_5, cG1_2_6, cG1_2_7⟩ := HG1w2.out.c8 2 (w.heap.size + 1 + 1) rfl rfl rfl rfl rfl rfl rfl rfl rfl rfl
  go_wp2_with fail
  refine (HI.out _).mono ?_
  rintro e w3 ⟨rfl, rfl⟩
  go_wp2_with fail
  clear lG1_0 cG1_0_0 cG1_0_1 cG1_0_2 cG1_0_3 cG1_0_4 cG1_0_5 cG1_0_6 cG1_0_7 lG1_1 cG1_1_0 cG1_1_1 lG1_2 cG1_2_0 cG1_2_1 cG1_2_2 cG1_2_3 cG1_2_4 cG1_2_5 cG1_2_6 cG1_2_7
  have HQ := hide ((Blks.nil w2).more (.cells #[.int .i64 V, .slice on N.length cn] 28) (by simp))
  have hszw := HG1w2.out.2.1
  simp only [List.length_append, List.length_cons, List.length_nil] at hszw
  have HGa : Hid (Blks w _ [.cells #[.int .i64 i, .int .i64 z, .int .i64 s, .slice oa P.length ca, .int .i64 v, .slice od D.length cd, .int .i64 l, .int .i64 u] 49, .cells #[.int .i64 v', .slice od' D'.length cd'] 28, .cells #[.int .i64 0, .int .i64 0, .int .i64 0, .slice none 0 0, .int .i64 0, .slice none 0 0, .int .i64 0, .int .i64 0] 49]) := hide ((HG1w2.out.on HQ.out.2.2).on (Below.refl _ _).drew)
  have hQx := HQ.out.on (Below.refl _ _).drew
  obtain ⟨q0, q1⟩ := hQx.c2 0 w2.heap.size rfl rfl rfl rfl
  have HVa := hide (And.intro (HV.out.1.below hQx.2.2) HV.out.2)
  clear hQx HC HN HI HV
  refine wp_region_reads (fun w' => (∃ oo2, Blks w w' [.cells #[.int .i64 i, .int .i64 z, .int .i64 s, .slice oa P.length ca, .int .i64 v, .slice od D.length cd, .int .i64 l, .int .i64 u] 49, .cells #[.int .i64 v', .slice od' D'.length cd'] 28, oo2]) ∧ w'.cell? ⟨w2.heap.size, 0, none⟩ = some (.int .i64 V) ∧ w'.cell? ⟨w2.heap.size, 1, none⟩ = some (.slice on N.length cn)) [0, 1, 2, 3, 5, 6] 5 (by rfl) (by kernel_rfl) (by kernel_rfl) (by kernel_rfl) (fun c d v a w h => by cases d <;> exact h) ?_ ?_
  · exact ⟨⟨_, HGa.out⟩, q0, q1⟩
  refine wpPureH_step (gtV i z s oa P.length ca v od D.length cd l u) rfl rfl (fun w' hS => ?_) ?_
  · obtain ⟨⟨oo2, hS1⟩, p0, p1⟩ := hS
    obtain ⟨k0, k1, k2, k3, k4, k5, k6, k7⟩ := hS1.c8 0 w.heap.size rfl rfl rfl rfl rfl rfl rfl rfl rfl rfl
    go_simp
  refine wpPureH_step (gtV i z s oa P.length ca v od D.length cd l u) rfl rfl (fun w' hS => ?_) ?_
  · obtain ⟨⟨oo2, hS1⟩, p0, p1⟩ := hS
    obtain ⟨k0, k1, k2, k3, k4, k5, k6, k7⟩ := hS1.c8 0 w.heap.size rfl rfl rfl rfl rfl rfl rfl rfl rfl rfl
    go_simp
  refine wpPureH_step (dn V on N.length cn) rfl rfl (fun w' hS => ?_) ?_
  · obtain ⟨⟨oo2, hS1⟩, p0, p1⟩ := hS
    obtain ⟨k0, k1, k2, k3, k4, k5, k6, k7⟩ := hS1.c8 0 w.heap.size rfl rfl rfl rfl rfl rfl rfl rfl rfl rfl
    go_simp
  refine wpPureH_step (.int .i64 m) rfl rfl (fun w' hS => ?_) ?_
  · obtain ⟨⟨oo2, hS1⟩, p0, p1⟩ := hS
    obtain ⟨k0, k1, k2, k3, k4, k5, k6, k7⟩ := hS1.c8 0 w.heap.size rfl rfl rfl rfl rfl rfl rfl rfl rfl rfl
    go_simp
  refine wpPureH_step (.pointer (some ⟨w.heap.size, 3, none⟩)) rfl rfl (fun w' hS => ?_) ?_
  · obtain ⟨⟨oo2, hS1⟩, p0, p1⟩ := hS
    obtain ⟨k0, k1, k2, k3, k4, k5, k6, k7⟩ := hS1.c8 0 w.heap.size rfl rfl rfl rfl rfl rfl rfl rfl rfl rfl
    go_simp
  refine wpPureH_step (.slice oa P.length ca) rfl rfl (fun w' hS => ?_) ?_
  · obtain ⟨⟨oo2, hS1⟩, p0, p1⟩ := hS
    obtain ⟨k0, k1, k2, k3, k4, k5, k6, k7⟩ := hS1.c8 0 w.heap.size rfl rfl rfl rfl rfl rfl rfl rfl rfl rfl
    go_simp
  refine wpPureH_nil ?_
  clear HG1w2 HQ
  generalize World.drew _ = wa at *
  refine one_readyH (i := 4) (by kernel_rfl) rfl rfl (fun K hK => ?_)
  go_simp
  refine (HTo.out wa on N.length cn).mono ?_
  rintro e wb ⟨rfl, hb⟩
  have HGb : Hid (Blks w wb [.cells #[.int .i64 i, .int .i64 z, .int .i64 s, .slice oa P.length ca, .int .i64 v, .slice od D.length cd, .int .i64 l, .int .i64 u] 49, .cells #[.int .i64 v', .slice od' D'.length cd'] 28, .cells #[.int .i64 0, .int .i64 0, .int .i64 0, .slice none 0 0, .int .i64 0, .slice none 0 0, .int .i64 0, .int .i64 0] 49]) := hide (HGa.out.on hb)
  have HVb := hide (And.intro (HVa.out.1.below hb) HVa.out.2)
  have q0b : wb.cell? ⟨w2.heap.size, 0, none⟩ = some (.int .i64 V) := by rw [hb.cell (World.block_lt_of_cell? wa _ q0)]; exact q0
  have q1b : wb.cell? ⟨w2.heap.size, 1, none⟩ = some (.slice on N.length cn) := by rw [hb.cell (World.block_lt_of_cell? wa _ q1)]; exact q1
  clear hb HGa HVa q0 q1
  refine hK _ _ ⟨⟨_, HGb.out⟩, q0b, q1b⟩ ?_
  clear hK K
  refine one_readyH (i := 7) (by kernel_rfl) rfl rfl (fun K hK => ?_)
  go_simp
  refine (cloneP_any P oa ca wb (HP.out.below HGb.out.2.2) (by omega)).mono ?_
  rintro e wc ⟨⟨x, rfl, ⟨ox, cx, rfl, hx⟩, hfx⟩, hb⟩
  have hszb := HGb.out.2.1
  simp only [List.length_cons, List.length_nil] at hszb
  have HX := hide (And.intro (show TapsV wc (.slice ox P.length cx) P from ⟨ox, cx, rfl, hx⟩) (hfx.monoD (show w.heap.size + 1 + 1 + 1 ≤ wb.heap.size by omega)))
  have HGc : Hid (Blks w wc [.cells #[.int .i64 i, .int .i64 z, .int .i64 s, .slice oa P.length ca, .int .i64 v, .slice od D.length cd, .int .i64 l, .int .i64 u] 49, .cells #[.int .i64 v', .slice od' D'.length cd'] 28, .cells #[.int .i64 0, .int .i64 0, .int .i64 0, .slice none 0 0, .int .i64 0, .slice none 0 0, .int .i64 0, .int .i64 0] 49]) := hide (HGb.out.on hb)
  have HVc := hide (And.intro (HVb.out.1.below hb) HVb.out.2)
  have q0c : wc.cell? ⟨w2.heap.size, 0, none⟩ = some (.int .i64 V) := by rw [hb.cell (World.block_lt_of_cell? wb _ q0b)]; exact q0b
  have q1c : wc.cell? ⟨w2.heap.size, 1, none⟩ = some (.slice on N.length cn) := by rw [hb.cell (World.block_lt_of_cell? wb _ q1b)]; exact q1b
  clear hb HGb HVb q0b q1b hx hfx hszb
  refine hK _ _ ⟨⟨_, HGc.out⟩, q0c, q1c⟩ ?_
  clear hK K
  obtain ⟨r0, r1, r2, r3, r4, r5, r6, r7⟩ := HGc.out.c8 2 (w.heap.size + 1 + 1) rfl rfl rfl rfl rfl rfl rfl rfl rfl rfl
  obtain ⟨f0, f1, f2, f3, f4, f5, f6, f7⟩ := HGc.out.z8 2 (w.heap.size + 1 + 1) rfl rfl
  refine one_readyH (i := 8) (by kernel_rfl) rfl rfl (fun K hK => ?_)
  go_simp
  have HGd : Hid (Blks w ((((((((wc.setCell ⟨w.heap.size + 1 + 1, 0, none⟩ (.int .i64 i)).setCell ⟨w.heap.size + 1 + 1, 1, none⟩ (.int .i64 z)).setCell ⟨w.heap.size + 1 + 1, 2, none⟩ (.int .i64 s)).setCell ⟨w.heap.size + 1 + 1, 3, none⟩ (.slice none 0 0)).setCell ⟨w.heap.size + 1 + 1, 4, none⟩ (.int .i64 V)).setCell ⟨w.heap.size + 1 + 1, 5, none⟩ (.slice on N.length cn)).setCell ⟨w.heap.size + 1 + 1, 6, none⟩ (.int .i64 9)).setCell ⟨w.heap.size + 1 + 1, 7, none⟩ (.int .i64 (m + 100))) [.cells #[.int .i64 i, .int .i64 z, .int .i64 s, .slice oa P.length ca, .int .i64 v, .slice od D.length cd, .int .i64 l, .int .i64 u] 49, .cells #[.int .i64 v', .slice od' D'.length cd'] 28, .cells #[.int .i64 i, .int .i64 z, .int .i64 s, .slice none 0 0, .int .i64 V, .slice on N.length cn, .int .i64 9, .int .i64 (m + 100)] 49]) := hide (HGc.out.put8 2 (w.heap.size + 1 + 1) _ _ _ _ _ _ _ _ (.int .i64 i) (.int .i64 z) (.int .i64 s) (.slice none 0 0) (.int .i64 V) (.slice on N.length cn) (.int .i64 9) (.int .i64 (m + 100)) _ rfl rfl)
  have HXd : Hid (TapsV ((((((((wc.setCell ⟨w.heap.size + 1 + 1, 0, none⟩ (.int .i64 i)).setCell ⟨w.heap.size + 1 + 1, 1, none⟩ (.int .i64 z)).setCell ⟨w.heap.size + 1 + 1, 2, none⟩ (.int .i64 s)).setCell ⟨w.heap.size + 1 + 1, 3, none⟩ (.slice none 0 0)).setCell ⟨w.heap.size + 1 + 1, 4, none⟩ (.int .i64 V)).setCell ⟨w.heap.size + 1 + 1, 5, none⟩ (.slice on N.length cn)).setCell ⟨w.heap.size + 1 + 1, 6, none⟩ (.int .i64 9)).setCell ⟨w.heap.size + 1 + 1, 7, none⟩ (.int .i64 (m + 100))) (.slice ox P.length cx) P) := by
    refine hide ?_
    repeat (first | with_reducible exact HX.out.1 | with_reducible refine TapsV.setD ?_ HX.out.2 (by simp; try omega) _)
  have HVd : Hid (IntsV ((((((((wc.setCell ⟨w.heap.size + 1 + 1, 0, none⟩ (.int .i64 i)).setCell ⟨w.heap.size + 1 + 1, 1, none⟩ (.int .i64 z)).setCell ⟨w.heap.size + 1 + 1, 2, none⟩ (.int .i64 s)).setCell ⟨w.heap.size + 1 + 1, 3, none⟩ (.slice none 0 0)).setCell ⟨w.heap.size + 1 + 1, 4, none⟩ (.int .i64 V)).setCell ⟨w.heap.size + 1 + 1, 5, none⟩ (.slice on N.length cn)).setCell ⟨w.heap.size + 1 + 1, 6, none⟩ (.int .i64 9)).setCell ⟨w.heap.size + 1 + 1, 7, none⟩ (.int .i64 (m + 100))) (.slice on N.length cn) N) := by
    refine hide ?_
    repeat (first | with_reducible exact HVc.out.1 | with_reducible refine IntsV.setD ?_ HVc.out.2 (by simp; try omega) _)
  have q0d : ((((((((wc.setCell ⟨w.heap.size + 1 + 1, 0, none⟩ (.int .i64 i)).setCell ⟨w.heap.size + 1 + 1, 1, none⟩ (.int .i64 z)).setCell ⟨w.heap.size + 1 + 1, 2, none⟩ (.int .i64 s)).setCell ⟨w.heap.size + 1 + 1, 3, none⟩ (.slice none 0 0)).setCell ⟨w.heap.size + 1 + 1, 4, none⟩ (.int .i64 V)).setCell ⟨w.heap.size + 1 + 1, 5, none⟩ (.slice on N.length cn)).setCell ⟨w.heap.size + 1 + 1, 6, none⟩ (.int .i64 9)).setCell ⟨w.heap.size + 1 + 1, 7, none⟩ (.int .i64 (m + 100))).cell? ⟨w2.heap.size, 0, none⟩ = some (.int .i64 V) := by
    repeat (first | with_reducible exact q0c | with_reducible refine cell_set_ne (by simp; omega) ?_)
  have q1d : ((((((((wc.setCell ⟨w.heap.size + 1 + 1, 0, none⟩ (.int .i64 i)).setCell ⟨w.heap.size + 1 + 1, 1, none⟩ (.int .i64 z)).setCell ⟨w.heap.size + 1 + 1, 2, none⟩ (.int .i64 s)).setCell ⟨w.heap.size + 1 + 1, 3, none⟩ (.slice none 0 0)).setCell ⟨w.heap.size + 1 + 1, 4, none⟩ (.int .i64 V)).setCell ⟨w.heap.size + 1 + 1, 5, none⟩ (.slice on N.length cn)).setCell ⟨w.heap.size + 1 + 1, 6, none⟩ (.int .i64 9)).setCell ⟨w.heap.size + 1 + 1, 7, none⟩ (.int .i64 (m + 100))).cell? ⟨w2.heap.size, 1, none⟩ = some (.slice on N.length cn) := by
    repeat (first | with_reducible exact q1c | with_reducible refine cell_set_ne (by simp; omega) ?_)
  refine hK _ _ ⟨⟨_, HGd.out⟩, q0d, q1d⟩ ?_
  clear hK K HGc q0c q1c r0 f0 r1 f1 r2 f2 r3 f3 r4 f4 r5 f5 r6 f6 r7 f7
  generalize ((((((((wc.setCell ⟨w.heap.size + 1 + 1, 0, none⟩ (.int .i64 i)).setCell ⟨w.heap.size + 1 + 1, 1, none⟩ (.int .i64 z)).setCell ⟨w.heap.size + 1 + 1, 2, none⟩ (.int .i64 s)).setCell ⟨w.heap.size + 1 + 1, 3, none⟩ (.slice none 0 0)).setCell ⟨w.heap.size + 1 + 1, 4, none⟩ (.int .i64 V)).setCell ⟨w.heap.size + 1 + 1, 5, none⟩ (.slice on N.length cn)).setCell ⟨w.heap.size + 1 + 1, 6, none⟩ (.int .i64 9)).setCell ⟨w.heap.size + 1 + 1, 7, none⟩ (.int .i64 (m + 100))) = wd at *
  refine one_readyH (i := 9) (by kernel_rfl) rfl rfl (fun K hK => ?_)
  go_simp
  refine hK _ _ ⟨⟨_, HGd.out⟩, q0d, q1d⟩ ?_
  clear hK K
  refine one_readyH (i := 10) (by kernel_rfl) rfl rfl (fun K hK => ?_)
  go_simp
  refine hK _ _ ⟨⟨_, HGd.out⟩, q0d, q1d⟩ ?_
  clear hK K
  refine wpAnyH_done (by kernel_rfl) ?_ _
  obtain ⟨g0, g1, g2, g3, g4, g5, g6, g7⟩ := HGd.out.c8 2 (w.heap.size + 1 + 1) rfl rfl rfl rfl rfl rfl rfl rfl rfl rfl
  go_wp2_with fail
  refine bodyPost_ret (v := .tuple #[gtV i z s none 0 0 V on N.length cn 9 (m + 100), .slice ox P.length cx, .int .i64 0]) (by simp [results, Tryz.results77, go_sem, *]) rfl ⟨⟨on, cn, _, rfl, HVd.out, HVc.out.2.monoD (by omega), HXd.out, HX.out.2.monoD (by omega)⟩, HGd.out.2.2⟩
end Go.Proofs.YtcjfmbeemdcklaaGreat

/-
  What a call on a keeper may change; the keeper's cells; what a checked station has.
-/
namespace Go.Proofs.YtcjfmbeemdcklaaGreat
open Go.RowKit
structure Kq (S : Nat → Prop) (w w' : World) : Prop where
  os : w'.os = w.os
  tape : w'.tape = w.tape
  output : w'.output = w.output
  size : w.heap.size ≤ w'.heap.size
  block : ∀ k, k < w.heap.size → ¬ S k → w'.heap[k]? = w.heap[k]?
theorem Kq.refl (S : Nat → Prop) (w : World) : Kq S w w := ⟨rfl, rfl, rfl, Nat.le_refl _, fun _ _ _ => rfl⟩
theorem Kq.trans {S : Nat → Prop} {a b c : World} (h : Kq S a b) (k : Kq S b c) : Kq S a c :=
  ⟨k.os.trans h.os, k.tape.trans h.tape, k.output.trans h.output, Nat.le_trans h.size k.size, fun i hi hs => (k.block i (Nat.lt_of_lt_of_le hi h.size) hs).trans (h.block i hi hs)⟩
theorem Kq.mono {S T : Nat → Prop} {a b : World} (h : Kq S a b) (hst : ∀ k, k < a.heap.size → S k → T k) : Kq T a b :=
  ⟨h.os, h.tape, h.output, h.size, fun k hk ht => h.block k hk (fun hs => ht (hst k hk hs))⟩
theorem Kq.ofBelow {S : Nat → Prop} {a w : World} (h : Below a.heap.size a w) : Kq S a w := ⟨h.os, h.tape, h.output, h.size, fun k hk _ => h.block k hk⟩
theorem Kq.on {S : Nat → Prop} {a b c : World} (h : Kq S a b) (hb : Below b.heap.size b c) : Kq S a c := h.trans (.ofBelow hb)
theorem Kq.setCell {S : Nat → Prop} {a w : World} (h : Kq S a w) {p : Addr} (hp : S p.block) (u : Value) : Kq S a (w.setCell p u) :=
  ⟨h.os, h.tape, h.output, by simpa [World.setCell] using h.size, fun k hk hs => by
    rw [heap_setCell_other w _ _ _ (fun e => hs (by rw [e]; exact hp))]
    exact h.block k hk hs⟩
theorem Kq.setNew {S : Nat → Prop} {a w : World} (h : Kq S a w) {p : Addr} (hp : a.heap.size ≤ p.block) (u : Value) : Kq S a (w.setCell p u) :=
  ⟨h.os, h.tape, h.output, by simpa [World.setCell] using h.size, fun k hk hs => by
    rw [heap_setCell_other w _ _ _ (fun e => by omega)]
    exact h.block k hk hs⟩
theorem Kq.below {S : Nat → Prop} {a w : World} (h : Kq S a w) {B : Nat} (hB : B ≤ a.heap.size) (hS : ∀ k, k < B → ¬ S k) : Below B a w :=
  ⟨h.os, h.tape, h.output, h.size, fun k hk => h.block k (Nat.lt_of_lt_of_le hk hB) (hS k hk)⟩
theorem Kq.obj {S : Nat → Prop} {a w : World} (h : Kq S a w) {k : Nat} {o : Obj} (ho : a.heap[k]? = some o) (hs : ¬ S k) : w.heap[k]? = some o := by
  rw [h.block k (Array.getElem?_eq_some_iff.1 ho).1 hs]
  exact ho
theorem Blks.kq {S : Nat → Prop} {w w1 w2 : World} {os : List Obj} (h : Blks w w1 os) (hk : Kq S w1 w2) (hS : ∀ k, k < w.heap.size + os.length → ¬ S k) : Blks w w2 os := by
  refine ⟨fun i o hi => ?_, Nat.le_trans h.2.1 hk.size, h.2.2.trans (hk.below h.2.2.size (fun k hk' => hS k (by omega)))⟩
  have := (List.getElem?_eq_some_iff.1 hi).1
  exact hk.obj (h.1 i o hi) (hS _ (by omega))
abbrev KQ (K Q : Nat) : Nat → Prop := fun k => k = K ∨ k = Q
section
variable {w : World} {K Q B : Nat} {a : KA} {T : List TK} {P : List TP} {V : List Int} {dv : Int} {D : List Int} {G : List GT} {W : List VW}
theorem Ks.c0 (h : Ks w K Q B a T P V dv D G W) : w.cell? ⟨K, 0, none⟩ = some (.slice a.o1 T.length a.c1) := by rw [cell_of_row _ _ 0 _ _ _ h.box]; rfl
theorem Ks.c1 (h : Ks w K Q B a T P V dv D G W) : w.cell? ⟨K, 1, none⟩ = some (.slice a.o2 P.length a.c2) := by rw [cell_of_row _ _ 1 _ _ _ h.box]; rfl
theorem Ks.c2 (h : Ks w K Q B a T P V dv D G W) : w.cell? ⟨K, 2, none⟩ = some (.slice a.o3 V.length a.c3) := by rw [cell_of_row _ _ 2 _ _ _ h.box]; rfl
theorem Ks.c3 (h : Ks w K Q B a T P V dv D G W) : w.cell? ⟨K, 3, none⟩ = some (.int .i64 dv) := by rw [cell_of_row _ _ 3 _ _ _ h.box]; rfl
theorem Ks.c4 (h : Ks w K Q B a T P V dv D G W) : w.cell? ⟨K, 4, none⟩ = some (.slice a.od D.length a.cd) := by rw [cell_of_row _ _ 4 _ _ _ h.box]; rfl
theorem Ks.c5 (h : Ks w K Q B a T P V dv D G W) : w.cell? ⟨K, 5, none⟩ = some (.slice (some ⟨Q, 0, none⟩) G.length a.cg) := by rw [cell_of_row _ _ 5 _ _ _ h.box]; rfl
theorem Ks.c6 (h : Ks w K Q B a T P V dv D G W) : w.cell? ⟨K, 6, none⟩ = some (.slice a.ov W.length a.cv) := by rw [cell_of_row _ _ 6 _ _ _ h.box]; rfl
theorem Ks.fz (h : Ks w K Q B a T P V dv D G W) (j : Nat) : w.frozen? ⟨K, j, none⟩ = false := frozen_of_row _ _ j _ _ h.box
theorem Ks.gc (h : Ks w K Q B a T P V dv D G W) {q : Nat} {g : GT} (hq : G[q]? = some g) (j : Nat) (hj : j < 8) : w.cell? ⟨Q, q * 8 + j, none⟩ = g.cells[j]? := by
  rw [h.row.cellAt (q * 8 + j) (by have := (List.getElem?_eq_some_iff.1 hq).1; omega)]
  exact cellsG_get G q g hq j hj
theorem Ks.g0 (h : Ks w K Q B a T P V dv D G W) {q : Nat} {g : GT} (hq : G[q]? = some g) : w.cell? ⟨Q, q * 8, none⟩ = some (.int .i64 g.i) := h.gc hq 0 (by omega)
theorem Ks.g1 (h : Ks w K Q B a T P V dv D G W) {q : Nat} {g : GT} (hq : G[q]? = some g) : w.cell? ⟨Q, q * 8 + 1, none⟩ = some (.int .i64 g.z) := h.gc hq 1 (by omega)
theorem Ks.g2 (h : Ks w K Q B a T P V dv D G W) {q : Nat} {g : GT} (hq : G[q]? = some g) : w.cell? ⟨Q, q * 8 + 2, none⟩ = some (.int .i64 g.s) := h.gc hq 2 (by omega)
theorem Ks.g3 (h : Ks w K Q B a T P V dv D G W) {q : Nat} {g : GT} (hq : G[q]? = some g) : w.cell? ⟨Q, q * 8 + 3, none⟩ = some (.slice g.oa g.A.length g.ca) := h.gc hq 3 (by omega)
theorem Ks.g4 (h : Ks w K Q B a T P V dv D G W) {q : Nat} {g : GT} (hq : G[q]? = some g) : w.cell? ⟨Q, q * 8 + 4, none⟩ = some (.int .i64 g.v) := h.gc hq 4 (by omega)
theorem Ks.g5 (h : Ks w K Q B a T P V dv D G W) {q : Nat} {g : GT} (hq : G[q]? = some g) : w.cell? ⟨Q, q * 8 + 5, none⟩ = some (.slice g.od g.D.length g.cd) := h.gc hq 5 (by omega)
theorem Ks.g6 (h : Ks w K Q B a T P V dv D G W) {q : Nat} {g : GT} (hq : G[q]? = some g) : w.cell? ⟨Q, q * 8 + 6, none⟩ = some (.int .i64 g.l) := h.gc hq 6 (by omega)
theorem Ks.g7 (h : Ks w K Q B a T P V dv D G W) {q : Nat} {g : GT} (hq : G[q]? = some g) : w.cell? ⟨Q, q * 8 + 7, none⟩ = some (.int .i64 g.u) := h.gc hq 7 (by omega)
def KOff (a : KA) (T : List TK) (P : List TP) (V D : List Int) (G : List GT) (W : List VW) (X : Nat) : Prop :=
  Off a.o1 T X ∧ Off a.o2 P X ∧ Off a.o3 V X ∧ Off a.od D X ∧ Off a.ov W X ∧ ∀ g ∈ G, Off g.oa g.A X ∧ Off g.od g.D X
theorem off_ge {α : Type} {o : Option Addr} {L : List α} {b X : Nat} (h : ∀ A, o = some A → L ≠ [] → A.block < b) (hX : b ≤ X) : Off o L X := fun A hA hne e => by
  have := h A hA hne
  omega
theorem tapsV_lt {w : World} {o : Option Addr} {n c : Nat} {L : List TP} (h : TapsV w (.slice o n c) L) : ∀ A, o = some A → L ≠ [] → A.block < w.heap.size := by
  intro A hA hne
  obtain ⟨-, h1, -⟩ := h.eqs
  cases L with
  | nil => exact absurd rfl hne
  | cons p L =>
    obtain ⟨b, hb, c0, -⟩ := h1 0 p rfl
    rw [hA] at hb
    cases hb
    have := World.block_lt_of_cell? w _ c0
    rwa [addr_blk] at this
theorem tiksV_lt {w : World} {o : Option Addr} {n c : Nat} {L : List TK} (h : TiksV w (.slice o n c) L) : ∀ A, o = some A → L ≠ [] → A.block < w.heap.size := by
  intro A hA hne
  obtain ⟨-, h1, -⟩ := h.eqs
  cases L with
  | nil => exact absurd rfl hne
  | cons p L =>
    obtain ⟨b, hb, c0, -⟩ := h1 0 p rfl
    rw [hA] at hb
    cases hb
    have := World.block_lt_of_cell? w _ c0
    rwa [addr_blk] at this
theorem intsV_lt {w : World} {o : Option Addr} {n c : Nat} {L : List Int} (h : IntsV w (.slice o n c) L) : ∀ A, o = some A → L ≠ [] → A.block < w.heap.size := by
  intro A hA hne
  obtain ⟨-, h1, -⟩ := h.eqs
  cases L with
  | nil => exact absurd rfl hne
  | cons p L =>
    obtain ⟨b, hb, c0⟩ := h1 0 p rfl
    rw [hA] at hb
    cases hb
    have := World.block_lt_of_cell? w _ c0
    rwa [addr_blk] at this
theorem vwsV_lt {w : World} {o : Option Addr} {n c : Nat} {L : List VW} (h : VwsV w (.slice o n c) L) : ∀ A, o = some A → L ≠ [] → A.block < w.heap.size := by
  intro A hA hne
  obtain ⟨-, h1, -⟩ := h.eqs
  cases L with
  | nil => exact absurd rfl hne
  | cons p L =>
    obtain ⟨b, hb, c0, -⟩ := h1 0 p rfl
    rw [hA] at hb
    cases hb
    have := World.block_lt_of_cell? w _ c0
    rwa [addr_blk] at this
theorem Ks.offge (h : Ks w K Q B a T P V dv D G W) {X : Nat} (hX : w.heap.size ≤ X) : KOff a T P V D G W X :=
  ⟨off_ge (tiksV_lt h.kl.tik.1) hX, off_ge (tapsV_lt h.kl.tap.1) hX, off_ge (intsV_lt h.kl.ver.1) hX, off_ge (intsV_lt h.kl.den.1) hX, off_ge (vwsV_lt h.kl.vws.1) hX, fun g hg => ⟨off_ge (tapsV_lt (h.kl.gts g hg).1.1) hX, off_ge (intsV_lt (h.kl.gts g hg).2.1) hX⟩⟩
theorem Ks.setX (h : Ks w K Q B a T P V dv D G W) {p : Addr} (hX : KOff a T P V D G W p.block) (hK : p.block ≠ K) (hQ : p.block ≠ Q) (u : Value) : Ks (w.setCell p u) K Q B a T P V dv D G W :=
  ⟨heap_setO h.box hK u, ownsRow_setO h.row hQ u, h.bk, h.ne, ⟨h.kl.tik.1.setO hX.1 u, h.kl.tik.2⟩, ⟨h.kl.tap.1.setO hX.2.1 u, h.kl.tap.2⟩, ⟨h.kl.ver.1.setO hX.2.2.1 u, h.kl.ver.2⟩, ⟨h.kl.den.1.setO hX.2.2.2.1 u, h.kl.den.2⟩, ⟨h.kl.vws.1.setO hX.2.2.2.2.1 u, h.kl.vws.2⟩,
   fun g hg => ⟨⟨(h.kl.gts g hg).1.1.setO (hX.2.2.2.2.2 g hg).1 u, (h.kl.gts g hg).1.2⟩, (h.kl.gts g hg).2.1.setO (hX.2.2.2.2.2 g hg).2 u, (h.kl.gts g hg).2.2⟩⟩
theorem chkS_right (h : chkS T P V dv D G W = 0) : chkL T P V = 0 ∧ chkD dv D = 0 ∧ G.length = 3 ∧ (∀ q g, G[q]? = some g → gateE dv P q g = 0) ∧ chkVs W = 0 ∧ W.length = 3 := by
  unfold chkS at h
  by_cases h1 : chkL T P V = 0
  · rw [if_pos h1] at h
    by_cases h2 : chkD dv D = 0
    · rw [if_pos h2] at h
      by_cases h3 : gatesE dv P G = 0
      · rw [if_pos h3] at h
        have hG : G.length = 3 := by
          by_cases hg : G.length = 3
          · exact hg
          · rw [gatesE, if_neg hg] at h3
            omega
        rw [gatesE, if_pos hG] at h3
        have hW : W.length = 3 := by
          by_cases hw : W.length = 3
          · exact hw
          · rw [chkVs, if_neg hw] at h
            omega
        refine ⟨h1, h2, hG, ?_, h, hW⟩
        have hz : ∀ (L : List GT) (n : Nat), gatesF dv P n L = 0 → ∀ q g, L[q]? = some g → gateE dv P (n + q) g = 0 := by
          intro L
          induction L with
          | nil => intro n _ q g hg; simp at hg
          | cons x L ih =>
            intro n hf q g hg
            rw [gatesF] at hf
            by_cases hx : gateE dv P n x = 0
            · rw [if_pos hx] at hf
              match q, hg with
              | 0, hg => simp at hg; subst hg; exact hx
              | q + 1, hg =>
                have := ih (n + 1) hf q g (by simpa using hg)
                rwa [show n + 1 + q = n + (q + 1) by omega] at this
            · rw [if_neg hx] at hf
              exact absurd hf hx
        intro q g hg
        have := hz G 0 h3 q g hg
        rwa [Nat.zero_add] at this
      · rw [if_neg h3] at h
        exact absurd h h3
    · rw [if_neg h2] at h
      exact absurd h h2
  · rw [if_neg h1] at h
    exact absurd h h1
theorem gateE_right {n : Nat} {g : GT} (h : gateE dv P n g = 0) : chkG g.i g.z g.s g.A g.v g.D g.l g.u = 0 ∧ g.i = n ∧ ¬ dv < g.v ∧ P.any (twiG g.i g.s g.A) = false := by
  unfold gateE at h
  by_cases h1 : chkG g.i g.z g.s g.A g.v g.D g.l g.u = 0
  · rw [if_pos h1] at h
    by_cases h2 : g.i = (n : Int) ∧ ¬ dv < g.v
    · rw [if_pos h2] at h
      refine ⟨h1, h2.1, h2.2, ?_⟩
      cases hx : P.any (twiG g.i g.s g.A)
      · rfl
      · rw [hx] at h
        simp at h
    · rw [if_neg h2] at h
      omega
  · rw [if_neg h1] at h
    exact absurd h h1
end
theorem LensOk.of {T : List TK} {P : List TP} {V : List Int} (h : chkL T P V = 0) : LensOk T P V := by
  obtain ⟨r1, r2, r3, -, -⟩ := chkL_right h
  exact ⟨by omega, by omega, by omega⟩
def Led6 (F : Nat) (w : World) (x1 : Option Addr) (y1 : Nat) (x2 : Option Addr) (y2 : Nat) (x3 : Option Addr) (y3 : Nat) (T : List TK) (P : List TP) (V : List Int) : Prop :=
  (TiksV w (.slice x1 T.length y1) T ∧ Fresh F (.slice x1 T.length y1)) ∧ (TapsV w (.slice x2 P.length y2) P ∧ Fresh F (.slice x2 P.length y2)) ∧ IntsV w (.slice x3 V.length y3) V ∧ Fresh F (.slice x3 V.length y3)
theorem Led6.below {F : Nat} {w w' : World} {x1 x2 x3 : Option Addr} {y1 y2 y3 : Nat} {T : List TK} {P : List TP} {V : List Int} (h : Led6 F w x1 y1 x2 y2 x3 y3 T P V) (hb : Below w.heap.size w w') : Led6 F w' x1 y1 x2 y2 x3 y3 T P V :=
  ⟨⟨h.1.1.below hb, h.1.2⟩, ⟨h.2.1.1.below hb, h.2.1.2⟩, h.2.2.1.below hb, h.2.2.2⟩
theorem Led6.set {F : Nat} {w : World} {x1 x2 x3 : Option Addr} {y1 y2 y3 : Nat} {T : List TK} {P : List TP} {V : List Int} (h : Led6 F w x1 y1 x2 y2 x3 y3 T P V) {p : Addr} (hp : p.block < F) (u : Value) : Led6 F (w.setCell p u) x1 y1 x2 y2 x3 y3 T P V :=
  ⟨⟨h.1.1.set h.1.2 hp u, h.1.2⟩, ⟨h.2.1.1.set h.2.1.2 hp u, h.2.1.2⟩, h.2.2.1.set h.2.2.2 hp u, h.2.2.2⟩
theorem Led6.mono {F E : Nat} {w : World} {x1 x2 x3 : Option Addr} {y1 y2 y3 : Nat} {T : List TK} {P : List TP} {V : List Int} (h : Led6 F w x1 y1 x2 y2 x3 y3 T P V) (hE : E ≤ F) : Led6 E w x1 y1 x2 y2 x3 y3 T P V :=
  ⟨⟨h.1.1, h.1.2.mono hE⟩, ⟨h.2.1.1, h.2.1.2.mono hE⟩, h.2.2.1, h.2.2.2.mono hE⟩
theorem LedN.led6 {F : Nat} {w : World} {v : Value} {T : List TK} {P : List TP} {V : List Int} (h : LedN F w v T P V) : ∃ x1 y1 x2 y2 x3 y3, v = lg x1 x2 x3 T.length y1 P.length y2 V.length y3 ∧ Led6 F w x1 y1 x2 y2 x3 y3 T P V := by
  obtain ⟨q1, e1, q2, e2, q3, e3, rfl, a1, a2, a3, f1, f2, f3⟩ := h.open6
  exact ⟨q1, e1, q2, e2, q3, e3, rfl, ⟨a1, f1⟩, ⟨a2, f2⟩, a3, f3⟩
theorem sellFV {w : World} {v : Value} {T : List TK} {P : List TP} {V : List Int} (h : LedV w v T P V) (hl : LensOk T P V) (i k f t z r : Int) : Calls Tryz.prog 100 #[v, tk i k f t z r] w fun e w' =>
      (∃ v, e = .returned (.tuple #[v, .int .i64 (sellE T P V ⟨i, k, f, t, z, r⟩)]) ∧ LedN w.heap.size w' v (if sellE T P V ⟨i, k, f, t, z, r⟩ = 0 then soldT T ⟨i, k, f, t, z, r⟩ else []) (if sellE T P V ⟨i, k, f, t, z, r⟩ = 0 then P else []) (if sellE T P V ⟨i, k, f, t, z, r⟩ = 0 then V else [])) ∧ Below w.heap.size w w' := by
  obtain ⟨o1, c1, o2, c2, o3, c3, rfl, a1, a2, a3, ⟨l1, l2, l3⟩, n1, -, -⟩ := h.opened
  exact sellF_any T P V i k f t z r o1 o2 o3 c1 c2 c3 w a1 a2 a3 hl.1 hl.2.1 hl.2.2 l1 l2 l3 n1
end Go.Proofs.YtcjfmbeemdcklaaGreat

/-
  A ledger opened, out of the row.
-/
namespace Go.Proofs.YtcjfmbeemdcklaaGreat
open Go.ChangeShapes Go.WideShapes Go.ChangeAt Go.RowKit Go.Deep
section
variable {H : Type} {enc : TypeId × Value → H}
end
end Go.Proofs.YtcjfmbeemdcklaaGreat

/-
  A station opened, out of the row.
-/
namespace Go.Proofs.YtcjfmbeemdcklaaGreat
open Go.ChangeShapes Go.WideShapes Go.ChangeAt Go.RowKit Go.Deep
theorem cellsSta : Tryz.prog.cellsOf 32 = 7 := by kernel_rfl
theorem cellsGts : Tryz.prog.cellsOf 29 = 1 := by kernel_rfl
theorem cellsVws : Tryz.prog.cellsOf 30 = 1 := by kernel_rfl
section
variable {H : Type} {enc : TypeId × Value → H}
set_option maxRecDepth 100000 in
theorem gate_of {W : World} {base fuel : Nat} {sp : Nat → Bool} {hd : Bool} {cs : List Value} {x : DataW H × List MemPlace} (hsz : cs.length = 8) (h : DataW.trod enc Tryz.prog W base sp hd fuel 49 cs = some x) :
    ∃ g : GT, cs = g.cells ∧ TapsOk W g.oa g.A g.ca ∧ IntsOk W g.od g.D g.cd := by
  match cs, hsz with
  | [d0, d1, d2, d3, d4, d5, d6, d7], _ =>
  obtain ⟨xs, m, _, hx, hl, hlen, hfs⟩ := DataW.trod_struct Tryz.underlying49 h
  match xs, hlen with
  | [y0, y1, y2, y3, y4, y5], _ =>
  have g0 := hfs 0 _ rfl
  have g1 := hfs 1 _ rfl
  have g2 := hfs 2 _ rfl
  have g3 := hfs 3 _ rfl
  have g4 := hfs 4 _ rfl
  have g5 := hfs 5 _ rfl
  simp [cells3', cells30, cellsDen, cellsBud] at g0 g1 g2 g3 g4 g5
  obtain ⟨k0, e0, -⟩ := DataW.trod_int Tryz.underlying3 g0
  obtain ⟨k1, e1, -⟩ := DataW.trod_int Tryz.underlying3 g1
  obtain ⟨k2, e2, -⟩ := DataW.trod_int Tryz.underlying3 g2
  obtain ⟨oa, La, ca, e3, ha⟩ := taps_ofV g3
  obtain ⟨n, od, Ld, cd, e4, hd⟩ := den_of rfl g4
  obtain ⟨xs', m', _, hx', hl', hlen', hfs'⟩ := DataW.trod_struct Tryz.underlying47 g5
  match xs', hlen' with
  | [z0, z1], _ =>
  have f0 := hfs' 0 _ rfl
  have f1 := hfs' 1 _ rfl
  simp [cells3'] at f0 f1
  obtain ⟨k6, e6, -⟩ := DataW.trod_int Tryz.underlying3 f0
  obtain ⟨k7, e7, -⟩ := DataW.trod_int Tryz.underlying3 f1
  simp only [List.cons.injEq, and_true] at e0 e1 e2 e3 e4 e6 e7
  obtain ⟨e4, e5⟩ := e4
  subst e0 e1 e2 e3 e4 e5 e6 e7
  exact ⟨⟨_, _, _, _, _, _, _, _, _, _, _, _⟩, rfl, ha, hd⟩
set_option maxRecDepth 100000 in
theorem gates_ofV {W : World} {base fuel : Nat} {sp : Nat → Bool} {hd : Bool} {cs : List Value} {x : DataW H × List MemPlace} (h : DataW.trod enc Tryz.prog W base sp hd fuel 29 cs = some x) :
    ∃ (o : Option Addr) (L : List GT) (cap : Nat), cs = [.slice o L.length cap] ∧ GatesAt W o L ∧ GatesOk L ∧ L.length ≤ 9223372036854775807 ∧ L.length ≤ cap ∧ (o = none → cap = 0) := by
  rcases open_slice Tryz.underlying29 h with ⟨rfl, -⟩ | ⟨a, len, cap, m, n, D, Pl, rfl, hb, hl, hm, hmm, -, hx⟩
  · exact ⟨none, [], 0, rfl, fun i p h => by simp at h, fun g h => by simp at h, by simp, by simp, fun _ => rfl⟩
  · rw [cellsGate] at hx
    have hle : len ≤ m := by rw [hmm]; split <;> omega
    have hT : ∀ i, i < len → ∃ g : GT, Gt8 W (a.add (i * 8)) g ∧ TapsOk W g.oa g.A g.ca ∧ IntsOk W g.od g.D g.cd := by
      intro i hi
      obtain ⟨cs', h1, h2⟩ := hx i (by omega)
      obtain ⟨_, hlen, hc⟩ := World.cells?_some h1
      obtain ⟨g, rfl, hA, hD⟩ := gate_of hlen h2
      refine ⟨g, ⟨?_, ?_, ?_, ?_, ?_, ?_, ?_, ?_⟩, hA, hD⟩
      · simpa [Addr.add, GT.cells] using hc 0 (by omega)
      · simpa [Addr.add, GT.cells] using hc 1 (by omega)
      · simpa [Addr.add, GT.cells] using hc 2 (by omega)
      · simpa [Addr.add, GT.cells] using hc 3 (by omega)
      · simpa [Addr.add, GT.cells] using hc 4 (by omega)
      · simpa [Addr.add, GT.cells] using hc 5 (by omega)
      · simpa [Addr.add, GT.cells] using hc 6 (by omega)
      · simpa [Addr.add, GT.cells] using hc 7 (by omega)
    haveI : Inhabited GT := ⟨⟨0, 0, 0, none, [], 0, 0, none, [], 0, 0, 0⟩⟩
    obtain ⟨F, hF⟩ := choose_lt hT
    refine ⟨some a, (List.range len).map F, cap, by simp, ?_, ?_, ?_, by simpa using hl, fun h => by cases h⟩
    · intro i p hi
      rw [List.getElem?_map, Option.map_eq_some_iff] at hi
      obtain ⟨j, hj, rfl⟩ := hi
      obtain ⟨hlt, rfl⟩ : i < len ∧ i = j := by simpa using List.getElem?_eq_some_iff.1 hj
      obtain ⟨h8, ⟨a1, -, a2, a3⟩, ⟨b1, -, b2, b3⟩⟩ := hF i hlt
      exact ⟨a, rfl, h8, ⟨_, _, rfl, a1, a2, a3⟩, ⟨_, _, rfl, b1, b2, b3⟩⟩
    · intro g hg
      simp only [List.mem_map, List.mem_range] at hg
      obtain ⟨i, hi, rfl⟩ := hg
      obtain ⟨-, ⟨-, a2, -⟩, ⟨-, b2, -⟩⟩ := hF i hi
      exact ⟨a2, b2⟩
    · have : maxLen = 9223372036854775807 := rfl
      simp
      omega
structure StW (W : World) (o1 o2 o3 : Option Addr) (c1 c2 c3 : Nat) (T : List TK) (P : List TP) (V : List Int) (od : Option Addr) (cd : Nat) (D : List Int) (og : Option Addr) (cg : Nat) (G : List GT) (ov : Option Addr) (cv : Nat) (L : List VW) : Prop where
  led : LedV W (lg o1 o2 o3 T.length c1 P.length c2 V.length c3) T P V
  lok : LensOk T P V
  den : IntsOk W od D cd
  gts : GatesAt W og G
  gok : GatesOk G
  gle : G.length ≤ cg
  gno : og = none → cg = 0
  gln : G.length ≤ 9223372036854775807
  vws : VwsAt W ov L
  vle : L.length ≤ cv
  vno : ov = none → cv = 0
  vln : L.length ≤ 9223372036854775807
set_option maxRecDepth 100000 in
theorem open_station {W : World} {base : Nat} {sp : Nat → Bool} {v : Value} {d : DataW H} {p : List MemPlace} (hval : Value.okWide Tryz.prog W .any base 32 v) (h : DataW.Trod enc Tryz.prog W 0 sp true 32 v d p) :
    ∃ (o1 o2 o3 : Option Addr) (c1 c2 c3 : Nat) (T : List TK) (P : List TP) (V : List Int) (dv : Int) (od : Option Addr) (cd : Nat) (D : List Int) (og : Option Addr) (cg : Nat) (G : List GT) (ov : Option Addr) (cv : Nat) (L : List VW),
      v = stV o1 o2 o3 T.length c1 P.length c2 V.length c3 dv od D.length cd og G.length cg ov L.length cv ∧ StW W o1 o2 o3 c1 c2 c3 T P V od cd D og cg G ov cv L := by
  obtain ⟨cs, rfl, hsz⟩ := okWide_struct Tryz.underlying32 hval
  rw [cellsSta] at hsz
  obtain ⟨l⟩ := cs
  obtain ⟨fuel, hf⟩ := h
  match l, hsz with
  | [d0, d1, d2, d3, d4, d5, d6], _ =>
  obtain ⟨xs, n, _, hx, hl, hlen, hfs⟩ := DataW.trod_struct Tryz.underlying32 hf
  match xs, hlen with
  | [y0, y1, y2, y3], _ =>
  have g0 := hfs 0 _ rfl
  have g1 := hfs 1 _ rfl
  have g2 := hfs 2 _ rfl
  have g3 := hfs 3 _ rfl
  simp [Value.cells, cells43, cellsDen, cellsGts, cellsVws] at g0 g1 g2 g3
  obtain ⟨xs', n', _, hx', hl', hlen', hfs'⟩ := DataW.trod_struct Tryz.underlying26 g0
  match xs', hlen' with
  | [z0, z1, z2], _ =>
  have f0 := hfs' 0 _ rfl
  have f1 := hfs' 1 _ rfl
  have f2 := hfs' 2 _ rfl
  simp [cells30, cells40, cells41] at f0 f1 f2
  obtain ⟨o1, T, c1, e1, t1, t2, t3, t4⟩ := tiks_ofV f0
  obtain ⟨o2, P, c2, e2, l1, l2, l3, l4⟩ := taps_ofV f1
  obtain ⟨o3, V, c3, e3, v1, v2, v3, v4⟩ := ints_ofV f2
  obtain ⟨dv, od, D, cd, e4, hd⟩ := den_of rfl g1
  obtain ⟨og, G, cg, e6, hG, hok, m1, m2, m3⟩ := gates_ofV g2
  obtain ⟨ov, L, cv, e7, hV, u1, u2, u3⟩ := vws_ofV g3
  simp only [List.cons.injEq, and_true] at e1 e2 e3 e4 e6 e7
  obtain ⟨e4, e5⟩ := e4
  subst e1 e2 e3 e4 e5 e6 e7
  exact ⟨o1, o2, o3, c1, c2, c3, T, P, V, dv, od, cd, D, og, cg, G, ov, cv, L, rfl, ⟨⟨_, _, _, rfl, ⟨o1, c1, rfl, t1, t3, t4⟩, ⟨o2, c2, rfl, l1, l3, l4⟩, ⟨o3, c3, rfl, v1, v3, v4⟩⟩, ⟨t2, l2, v2⟩, hd, hG, hok, m2, m3, m1, hV, u2, u3, u1⟩⟩
end
end Go.Proofs.YtcjfmbeemdcklaaGreat

/-
  'changed' (package station).
-/
namespace Go.Proofs.YtcjfmbeemdcklaaGreat
open Go.RowKit
structure StR (w : World) (B : Nat) (v : Value) (T : List TK) (P : List TP) (V : List Int) (dv : Int) (D : List Int) (G : List GT) (W : List VW) : Prop where
  of : ∃ (o1 : Option Addr) (c1 : Nat) (o2 : Option Addr) (c2 : Nat) (o3 : Option Addr) (c3 : Nat) (od : Option Addr) (cd : Nat) (og : Option Addr) (cg : Nat) (ov : Option Addr) (cv : Nat),
    v = stV o1 o2 o3 T.length c1 P.length c2 V.length c3 dv od D.length cd og G.length cg ov W.length cv ∧ StW w o1 o2 o3 c1 c2 c3 T P V od cd D og cg G ov cv W ∧
    Fresh B (.slice o1 T.length c1) ∧ Fresh B (.slice o2 P.length c2) ∧ Fresh B (.slice o3 V.length c3) ∧ Fresh B (.slice od D.length cd) ∧ Fresh B (.slice og G.length cg) ∧ Fresh B (.slice ov W.length cv) ∧ ∀ g ∈ G, Fresh B (.slice g.oa g.A.length g.ca) ∧ Fresh B (.slice g.od g.D.length g.cd)
theorem StW.below {w w' : World} {o1 o2 o3 od og ov : Option Addr} {c1 c2 c3 cd cg cv : Nat} {T : List TK} {P : List TP} {V D : List Int} {G : List GT} {L : List VW} (h : StW w o1 o2 o3 c1 c2 c3 T P V od cd D og cg G ov cv L) (hb : Below w.heap.size w w') : StW w' o1 o2 o3 c1 c2 c3 T P V od cd D og cg G ov cv L :=
  ⟨h.led.below hb, h.lok, ⟨h.den.1.below hb, h.den.2⟩, h.gts.below hb, h.gok, h.gle, h.gno, h.gln, h.vws.below hb, h.vle, h.vno, h.vln⟩
theorem StR.below {w w' : World} {B : Nat} {v : Value} {T : List TK} {P : List TP} {V : List Int} {dv : Int} {D : List Int} {G : List GT} {W : List VW} (h : StR w B v T P V dv D G W) (hb : Below w.heap.size w w') : StR w' B v T P V dv D G W := by
  obtain ⟨o1, c1, o2, c2, o3, c3, od, cd, og, cg, ov, cv, e, hs, hf⟩ := h.of
  exact ⟨⟨o1, c1, o2, c2, o3, c3, od, cd, og, cg, ov, cv, e, hs.below hb, hf⟩⟩
def LnS (T : List TK) (P : List TP) (V D : List Int) (G : List GT) (W : List VW) : Prop := LensOk T P V ∧ D.length ≤ 9223372036854775807 ∧ GatesOk G ∧ G.length ≤ 9223372036854775807 ∧ W.length ≤ 9223372036854775807
theorem Ks.gates {w : World} {K Q B : Nat} {a : KA} {T : List TK} {P : List TP} {V : List Int} {dv : Int} {D : List Int} {G : List GT} {W : List VW} (h : Ks w K Q B a T P V dv D G W) : GatesAt w (some ⟨Q, 0, none⟩) G := by
  intro i g hi
  have hm := h.kl.gts g (List.mem_of_getElem? hi)
  refine ⟨_, rfl, ?_, hm.1.1, hm.2.1⟩
  rw [own_addrZ]
  exact ⟨h.g0 hi, h.g1 hi, h.g2 hi, h.g3 hi, h.g4 hi, h.g5 hi, h.g6 hi, h.g7 hi⟩
theorem Ks.str {w : World} {K Q B : Nat} {a : KA} {T : List TK} {P : List TP} {V : List Int} {dv : Int} {D : List Int} {G : List GT} {W : List VW} (h : Ks w K Q B a T P V dv D G W) (hl : LnS T P V D G W) :
    StR w B (stV a.o1 a.o2 a.o3 T.length a.c1 P.length a.c2 V.length a.c3 dv a.od D.length a.cd (some ⟨Q, 0, none⟩) G.length a.cg a.ov W.length a.cv) T P V dv D G W := by
  have hq := ownsRow_blk h.row
  obtain ⟨o, c, e1, e2, -⟩ := own_sliceB h.row
  simp only [Value.slice.injEq, true_and] at e1
  obtain ⟨-, rfl⟩ := e1
  refine ⟨⟨_, _, _, _, _, _, _, _, _, _, _, _, rfl, ⟨h.led, hl.1, ⟨h.kl.den.1.eqs.2.1, hl.2.1, h.kl.den.1.eqs.2.2⟩, h.gates, hl.2.2.1, e2, (fun h => by cases h), hl.2.2.2.1, h.kl.vws.1.ats, h.kl.vws.1.eqs.2.2.1, h.kl.vws.1.eqs.2.2.2, hl.2.2.2.2⟩, h.kl.tik.2.1, h.kl.tap.2.1, h.kl.ver.2.1, h.kl.den.2.1, fun k hk => ?_, h.kl.vws.2.1, fun g hg => ⟨(h.kl.gts g hg).1.2.1, (h.kl.gts g hg).2.2.1⟩⟩⟩
  simp only [Value.ownBlock, Option.some.injEq] at hk
  omega
theorem Kq.next {X T : Nat → Prop} {a b c : World} (h : Kq X a b) (k : Kq T b c) (hT : ∀ i, i < a.heap.size → T i → X i) : Kq X a c :=
  ⟨k.os.trans h.os, k.tape.trans h.tape, k.output.trans h.output, Nat.le_trans h.size k.size, fun i hi hs => (k.block i (Nat.lt_of_lt_of_le hi h.size) (fun ht => hs (hT i hi ht))).trans (h.block i hi hs)⟩
theorem gate_lens {dv : Int} {P : List TP} {n : Nat} {g : GT} (h : gateE dv P n g = 0) : g.A.length ≤ 12 ∧ g.D.length ≤ 12 ∧ 0 ≤ g.s ∧ g.s ≤ 99 := by
  obtain ⟨h1, -, -, -⟩ := gateE_right h
  obtain ⟨c1, -, c3, -⟩ := chkG_right h1
  obtain ⟨-, s2, -, s4⟩ := errS_right c1
  exact ⟨s4, (chkD_right c3).2.2.1, s2⟩
set_option maxHeartbeats 12800000 in
set_option maxRecDepth 100000 in
theorem changed_any (fn : Nat) (caps : Array Value) (hent : ∀ (args : Array Value) (W : World), (callFunc fn args).run Tryz.prog W = .ok (.enter fn args) W) (X : Nat → Prop)
    (T : List TK) (P : List TP) (V : List Int) (dv : Int) (D : List Int) (G : List GT) (W : List VW) (o1 o2 o3 od og ov : Option Addr) (c1 c2 c3 cd cg cv : Nat) (w : World) (hs : StW w o1 o2 o3 c1 c2 c3 T P V od cd D og cg G ov cv W) (hX : ∀ k, X k → k < w.heap.size)
    (Er : Int → World → Prop) (Ok : KA → List TK → List TP → List Int → Int → List Int → List GT → List VW → World → Prop)
    (hEr : ∀ E w2 p u, p.block = w.heap.size + 1 → Er E w2 → Er E (w2.setCell p u)) (hOk : ∀ a T P V dv D G W w2 p u, p.block = w.heap.size + 1 → Ok a T P V dv D G W w2 → Ok a T P V dv D G W (w2.setCell p u))
    (hdo : chkS T P V dv D G W = 0 → ∀ (w1 : World) (K Q : Nat) (a : KA) (G' : List GT), G'.map GT.p = G.map GT.p → Ks w1 K Q (w.heap.size + 1 + 1) a T P V dv D G' W → Below w.heap.size w w1 →
      Calls Tryz.prog fn (#[.pointer (some ⟨K, 0, none⟩)] ++ caps) w1 fun e w2 => ∃ E, e = .returned (.int .i64 E) ∧ Kq (fun k => k = K ∨ k = Q ∨ X k) w1 w2 ∧ (E ≠ 0 → Er E w2) ∧ (E = 0 → ∃ a' T' P' V' dv' D' G'' W', Ks w2 K Q (w.heap.size + 1 + 1) a' T' P' V' dv' D' G'' W' ∧ LnS T' P' V' D' G'' W' ∧ Ok a' T' P' V' dv' D' G'' W' w2)) :
    Calls Tryz.prog 45 #[stV o1 o2 o3 T.length c1 P.length c2 V.length c3 dv od D.length cd og G.length cg ov W.length cv, .func (.func fn) #[] caps] w fun e w' =>
      (∃ v E, e = .returned (.tuple #[v, .int .i64 E]) ∧ (chkS T P V dv D G W ≠ 0 → E = chkS T P V dv D G W ∧ Below w.heap.size w w') ∧ (E ≠ 0 → v = stV none none none 0 0 0 0 0 0 0 none 0 0 none 0 0 none 0 0) ∧ (chkS T P V dv D G W = 0 → (E ≠ 0 → Er E w') ∧
        (E = 0 → ∃ a T' P' V' dv' D' G' W', StR w' (w.heap.size + 1 + 1) v T' P' V' dv' D' G' W' ∧ Ok a T' P' V' dv' D' G' W' w'))) ∧ Kq X w w' := by
  have HB := hide (((Blks.nil w).more (.cells #[.slice o1 T.length c1, .slice o2 P.length c2, .slice o3 V.length c3, .int .i64 dv, .slice od D.length cd, .slice og G.length cg, .slice ov W.length cv] 32) (by simp)).more (.cells #[.slice none 0 0, .slice none 0 0, .slice none 0 0, .int .i64 0, .slice none 0 0, .slice none 0 0, .slice none 0 0] 32) (by simp))
  have HS := hide hs
  have HX := hide hX
  have HE := hide hEr
  have HO := hide hOk
  have HD := hide hdo
  have HC := hide (fun Y (h : StW Y o1 o2 o3 c1 c2 c3 T P V od cd D og cg G ov cv W) => stationCheck_any T P V dv D G W o1 o2 o3 od og ov c1 c2 c3 cd cg cv Y h.led h.lok h.den.1 h.den.2.1 h.gts h.gok h.vws h.vln)
  clear hs hX hEr hOk hdo
  have HR := hide (fun h : chkS T P V dv D G W = 0 => chkS_right h)
  generalize hc : chkS T P V dv D G W = C at *
  clear hc
  obtain ⟨k0, k1, k2, k3, k4, k5, k6⟩ := HB.out.c7 0 w.heap.size rfl rfl rfl rfl rfl rfl rfl rfl rfl
  rcases hC : (C != 0) with _ | _
  · obtain rfl : C = 0 := by simpa using hC
    clear hC
    obtain ⟨p1, p2, p3, p4, -, p6⟩ := HR.out rfl
    obtain ⟨l1, l2, l3, -, -⟩ := chkL_right p1
    have l4 := (chkD_right p2).2.2.1
    have l5 : V.length ≤ 60 := by omega
    have l6 : G.length ≤ 60 := by omega
    have l7 : W.length ≤ 60 := by omega
    have l8 : 0 < G.length := by omega
    have HGl := hide (fun g (hg : g ∈ G) => show g.A.length ≤ 60 ∧ g.D.length ≤ 60 from by
      obtain ⟨i, hi⟩ := List.mem_iff_getElem?.1 hg
      have := gate_lens (p4 i g hi)
      omega)
    clear p1 p2 p3 p4 p6 l3
    obtain ⟨g0, hg0⟩ : ∃ g, G[0]? = some g := ⟨G[0], by simp [l8]⟩
    obtain ⟨A, rfl, -⟩ := HS.out.gts 0 g0 hg0
    clear hg0
    have HF := hide (fun Y (h : StW Y o1 o2 o3 c1 c2 c3 T P V od cd D (some A) cg G ov cv W) => freshStation_any T P V dv D G W o1 o2 o3 od A ov c1 c2 c3 cd cg cv Y h.led.parts3.1.ats h.led.parts3.2.1.ats h.led.parts3.2.2.ats h.den.1 h.gts h.vws (by omega) l2 l5 (by omega) l7 l6 HGl.out)
    go_enter Tryz.func45, Tryz.ntmps45
    go_wp2_with fail
    refine (HC.out _ (HS.out.below HB.out.2.2)).mono ?_
    rintro e w1 ⟨rfl, hb⟩
    have HB1 := hide (HB.out.on hb)
    clear hb HB HC k0 k1 k2 k3 k4 k5 k6
    obtain ⟨k0, k1, k2, k3, k4, k5, k6⟩ := HB1.out.c7 0 w.heap.size rfl rfl rfl rfl rfl rfl rfl rfl rfl
    go_wp2_with fail
    refine (HF.out _ (HS.out.below HB1.out.2.2)).mono ?_
    rintro e w2 ⟨⟨x1, y1, x2, y2, x3, y3, x4, y4, Q, cq, x5, y5, G', rfl, hm, hf⟩, hb⟩
    have HB2 := hide (HB1.out.on hb)
    have hz1 : w.heap.size + 1 + 1 ≤ w1.heap.size := HB1.out.2.1
    have hz2 : w1.heap.size ≤ w2.heap.size := hb.size
    have hQ := ownsRow_blk hf.row
    have hgl : G'.length = G.length := by have := congrArg List.length hm; simpa using this
    have hK := Ks.new (B := w.heap.size + 1 + 1) (dv := dv) hf hz1 hz2
    simp only [boxK] at hK
    rw [hgl] at hK
    have HK := hide hK
    have HM := hide hm
    have hba := (Below.refl w2.heap.size w2).alloc (Nat.le_refl _) (.cells #[.slice x1 T.length y1, .slice x2 P.length y2, .slice x3 V.length y3, .int .i64 dv, .slice x4 D.length y4, .slice (some ⟨Q, 0, none⟩) G.length cq, .slice x5 W.length y5] 79)
    have HB3 := hide (HB2.out.on hba)
    have hz3 : w2.heap.size < (w2.alloc (.cells #[.slice x1 T.length y1, .slice x2 P.length y2, .slice x3 V.length y3, .int .i64 dv, .slice x4 D.length y4, .slice (some ⟨Q, 0, none⟩) G.length cq, .slice x5 W.length y5] 79)).heap.size := by simp
    clear hf hb hm hK hgl HB1 HB2 HF hba k0 k1 k2 k3 k4 k5 k6
    go_wp2_with fail
    generalize w2.alloc (.cells #[.slice x1 T.length y1, .slice x2 P.length y2, .slice x3 V.length y3, .int .i64 dv, .slice x4 D.length y4, .slice (some ⟨Q, 0, none⟩) G.length cq, .slice x5 W.length y5] 79) = w3 at *
    refine (HD.out trivial w3 w2.heap.size Q _ G' HM.out HK.out HB3.out.2.2).mono ?_
    rintro e w4 ⟨E, rfl, hkq, he, ho⟩
    have hns : ¬ (w.heap.size + 1 = w2.heap.size ∨ w.heap.size + 1 = Q ∨ X (w.heap.size + 1)) := by
      rintro (h | h | h)
      · omega
      · omega
      · have := HX.out _ h
        omega
    have HZ := hide (hkq.obj (HB3.out.1 1 _ rfl) hns)
    have HQ := hide (Kq.next (X := X) (.ofBelow HB3.out.2.2) hkq (fun i hi h => by
      rcases h with h | h | h
      · omega
      · omega
      · exact h))
    have HEr := hide he
    have HOk := hide ho
    clear hkq he ho hns HK HM HB3 HD
    have r0 := cell_of_row _ _ 0 _ _ _ HZ.out
    have r1 := cell_of_row _ _ 1 _ _ _ HZ.out
    have r2 := cell_of_row _ _ 2 _ _ _ HZ.out
    have r3 := cell_of_row _ _ 3 _ _ _ HZ.out
    have r4 := cell_of_row _ _ 4 _ _ _ HZ.out
    have r5 := cell_of_row _ _ 5 _ _ _ HZ.out
    have r6 := cell_of_row _ _ 6 _ _ _ HZ.out
    have s0 := frozen_of_row _ _ 0 _ _ HZ.out
    have s1 := frozen_of_row _ _ 1 _ _ HZ.out
    have s2 := frozen_of_row _ _ 2 _ _ HZ.out
    have s3 := frozen_of_row _ _ 3 _ _ HZ.out
    have s4 := frozen_of_row _ _ 4 _ _ HZ.out
    have s5 := frozen_of_row _ _ 5 _ _ HZ.out
    have s6 := frozen_of_row _ _ 6 _ _ HZ.out
    simp at r0 r1 r2 r3 r4 r5 r6
    rcases hE : (E != 0) with _ | _
    · obtain rfl : E = 0 := by simpa using hE
      obtain ⟨a', T', P', V', dv', D', G'', W', hk, hl, hok⟩ := HOk.out rfl
      have HK4 := hide hk
      have HL := hide hl
      have HO4 := hide hok
      clear hk hl hok HEr HOk
      have k0 := HK4.out.c0
      have k1 := HK4.out.c1
      have k2 := HK4.out.c2
      have k3 := HK4.out.c3
      have k4 := HK4.out.c4
      have k5 := HK4.out.c5
      have k6 := HK4.out.c6
      go_wp2_with fail
      have HZ5 := hide (heap_setCell_same _ (w.heap.size + 1) 6 _ _ (.slice a'.ov W'.length a'.cv) (heap_setCell_same _ (w.heap.size + 1) 5 _ _ (.slice (some ⟨Q, 0, none⟩) G''.length a'.cg) (heap_setCell_same _ (w.heap.size + 1) 4 _ _ (.slice a'.od D'.length a'.cd) (heap_setCell_same _ (w.heap.size + 1) 3 _ _ (.int .i64 dv') (heap_setCell_same _ (w.heap.size + 1) 2 _ _ (.slice a'.o3 V'.length a'.c3) (heap_setCell_same _ (w.heap.size + 1) 1 _ _ (.slice a'.o2 P'.length a'.c2) (heap_setCell_same _ (w.heap.size + 1) 0 _ _ (.slice a'.o1 T'.length a'.c1) HZ.out)))))))
      have HK5 := hide (((((((HK4.out.setB (p := ⟨w.heap.size + 1, 0, none⟩) (by simp) (.slice a'.o1 T'.length a'.c1)).setB (p := ⟨w.heap.size + 1, 1, none⟩) (by simp) (.slice a'.o2 P'.length a'.c2)).setB (p := ⟨w.heap.size + 1, 2, none⟩) (by simp) (.slice a'.o3 V'.length a'.c3)).setB (p := ⟨w.heap.size + 1, 3, none⟩) (by simp) (.int .i64 dv')).setB (p := ⟨w.heap.size + 1, 4, none⟩) (by simp) (.slice a'.od D'.length a'.cd)).setB (p := ⟨w.heap.size + 1, 5, none⟩) (by simp) (.slice (some ⟨Q, 0, none⟩) G''.length a'.cg)).setB (p := ⟨w.heap.size + 1, 6, none⟩) (by simp) (.slice a'.ov W'.length a'.cv))
      have HQ5 := hide (((((((HQ.out.setNew (p := ⟨w.heap.size + 1, 0, none⟩) (by simp) (.slice a'.o1 T'.length a'.c1)).setNew (p := ⟨w.heap.size + 1, 1, none⟩) (by simp) (.slice a'.o2 P'.length a'.c2)).setNew (p := ⟨w.heap.size + 1, 2, none⟩) (by simp) (.slice a'.o3 V'.length a'.c3)).setNew (p := ⟨w.heap.size + 1, 3, none⟩) (by simp) (.int .i64 dv')).setNew (p := ⟨w.heap.size + 1, 4, none⟩) (by simp) (.slice a'.od D'.length a'.cd)).setNew (p := ⟨w.heap.size + 1, 5, none⟩) (by simp) (.slice (some ⟨Q, 0, none⟩) G''.length a'.cg)).setNew (p := ⟨w.heap.size + 1, 6, none⟩) (by simp) (.slice a'.ov W'.length a'.cv))
      have HO5 := hide (HO.out a' T' P' V' dv' D' G'' W' _ ⟨w.heap.size + 1, 6, none⟩ (.slice a'.ov W'.length a'.cv) rfl (HO.out a' T' P' V' dv' D' G'' W' _ ⟨w.heap.size + 1, 5, none⟩ (.slice (some ⟨Q, 0, none⟩) G''.length a'.cg) rfl (HO.out a' T' P' V' dv' D' G'' W' _ ⟨w.heap.size + 1, 4, none⟩ (.slice a'.od D'.length a'.cd) rfl (HO.out a' T' P' V' dv' D' G'' W' _ ⟨w.heap.size + 1, 3, none⟩ (.int .i64 dv') rfl (HO.out a' T' P' V' dv' D' G'' W' _ ⟨w.heap.size + 1, 2, none⟩ (.slice a'.o3 V'.length a'.c3) rfl (HO.out a' T' P' V' dv' D' G'' W' _ ⟨w.heap.size + 1, 1, none⟩ (.slice a'.o2 P'.length a'.c2) rfl (HO.out a' T' P' V' dv' D' G'' W' _ ⟨w.heap.size + 1, 0, none⟩ (.slice a'.o1 T'.length a'.c1) rfl HO4.out)))))))
      clear HZ HK4 HQ HO4 r0 r1 r2 r3 r4 r5 r6 s0 s1 s2 s3 s4 s5 s6 k0 k1 k2 k3 k4 k5 k6
      generalize (((((((w4.setCell ⟨w.heap.size + 1, 0, none⟩ (.slice a'.o1 T'.length a'.c1)).setCell ⟨w.heap.size + 1, 1, none⟩ (.slice a'.o2 P'.length a'.c2)).setCell ⟨w.heap.size + 1, 2, none⟩ (.slice a'.o3 V'.length a'.c3)).setCell ⟨w.heap.size + 1, 3, none⟩ (.int .i64 dv')).setCell ⟨w.heap.size + 1, 4, none⟩ (.slice a'.od D'.length a'.cd)).setCell ⟨w.heap.size + 1, 5, none⟩ (.slice (some ⟨Q, 0, none⟩) G''.length a'.cg)).setCell ⟨w.heap.size + 1, 6, none⟩ (.slice a'.ov W'.length a'.cv)) = w5 at *
      have g0 := cell_of_row _ _ 0 _ _ _ HZ5.out
      have g1 := cell_of_row _ _ 1 _ _ _ HZ5.out
      have g2 := cell_of_row _ _ 2 _ _ _ HZ5.out
      have g3 := cell_of_row _ _ 3 _ _ _ HZ5.out
      have g4 := cell_of_row _ _ 4 _ _ _ HZ5.out
      have g5 := cell_of_row _ _ 5 _ _ _ HZ5.out
      have g6 := cell_of_row _ _ 6 _ _ _ HZ5.out
      simp at g0 g1 g2 g3 g4 g5 g6
      exact bodyPost_ret (v := .tuple #[stV a'.o1 a'.o2 a'.o3 T'.length a'.c1 P'.length a'.c2 V'.length a'.c3 dv' a'.od D'.length a'.cd (some ⟨Q, 0, none⟩) G''.length a'.cg a'.ov W'.length a'.cv, .int .i64 0]) (by simp [results, Tryz.results45, go_sem, g0, g1, g2, g3, g4, g5, g6]) rfl ⟨⟨_, _, rfl, fun h => absurd rfl h, fun h => absurd rfl h, fun _ => ⟨fun h => absurd rfl h, fun _ => ⟨a', T', P', V', dv', D', G'', W', HK5.out.str HL.out, HO5.out⟩⟩⟩, HQ5.out⟩
    · have hE0 : ¬ E = 0 := by simpa using hE
      have HE4 := hide (HEr.out hE0)
      clear HEr HOk
      go_wp2_with fail
      have HZ5 := hide (heap_setCell_same _ (w.heap.size + 1) 6 _ _ (.slice none 0 0) (heap_setCell_same _ (w.heap.size + 1) 5 _ _ (.slice none 0 0) (heap_setCell_same _ (w.heap.size + 1) 4 _ _ (.slice none 0 0) (heap_setCell_same _ (w.heap.size + 1) 3 _ _ (.int .i64 0) (heap_setCell_same _ (w.heap.size + 1) 2 _ _ (.slice none 0 0) (heap_setCell_same _ (w.heap.size + 1) 1 _ _ (.slice none 0 0) (heap_setCell_same _ (w.heap.size + 1) 0 _ _ (.slice none 0 0) HZ.out)))))))
      have HQ5 := hide (((((((HQ.out.setNew (p := ⟨w.heap.size + 1, 0, none⟩) (by simp) (.slice none 0 0)).setNew (p := ⟨w.heap.size + 1, 1, none⟩) (by simp) (.slice none 0 0)).setNew (p := ⟨w.heap.size + 1, 2, none⟩) (by simp) (.slice none 0 0)).setNew (p := ⟨w.heap.size + 1, 3, none⟩) (by simp) (.int .i64 0)).setNew (p := ⟨w.heap.size + 1, 4, none⟩) (by simp) (.slice none 0 0)).setNew (p := ⟨w.heap.size + 1, 5, none⟩) (by simp) (.slice none 0 0)).setNew (p := ⟨w.heap.size + 1, 6, none⟩) (by simp) (.slice none 0 0))
      have HE5 := hide (HE.out E _ ⟨w.heap.size + 1, 6, none⟩ (.slice none 0 0) rfl (HE.out E _ ⟨w.heap.size + 1, 5, none⟩ (.slice none 0 0) rfl (HE.out E _ ⟨w.heap.size + 1, 4, none⟩ (.slice none 0 0) rfl (HE.out E _ ⟨w.heap.size + 1, 3, none⟩ (.int .i64 0) rfl (HE.out E _ ⟨w.heap.size + 1, 2, none⟩ (.slice none 0 0) rfl (HE.out E _ ⟨w.heap.size + 1, 1, none⟩ (.slice none 0 0) rfl (HE.out E _ ⟨w.heap.size + 1, 0, none⟩ (.slice none 0 0) rfl HE4.out)))))))
      clear HZ HE4 HQ r0 r1 r2 r3 r4 r5 r6 s0 s1 s2 s3 s4 s5 s6
      generalize (((((((w4.setCell ⟨w.heap.size + 1, 0, none⟩ (.slice none 0 0)).setCell ⟨w.heap.size + 1, 1, none⟩ (.slice none 0 0)).setCell ⟨w.heap.size + 1, 2, none⟩ (.slice none 0 0)).setCell ⟨w.heap.size + 1, 3, none⟩ (.int .i64 0)).setCell ⟨w.heap.size + 1, 4, none⟩ (.slice none 0 0)).setCell ⟨w.heap.size + 1, 5, none⟩ (.slice none 0 0)).setCell ⟨w.heap.size + 1, 6, none⟩ (.slice none 0 0)) = w5 at *
      have g0 := cell_of_row _ _ 0 _ _ _ HZ5.out
      have g1 := cell_of_row _ _ 1 _ _ _ HZ5.out
      have g2 := cell_of_row _ _ 2 _ _ _ HZ5.out
      have g3 := cell_of_row _ _ 3 _ _ _ HZ5.out
      have g4 := cell_of_row _ _ 4 _ _ _ HZ5.out
      have g5 := cell_of_row _ _ 5 _ _ _ HZ5.out
      have g6 := cell_of_row _ _ 6 _ _ _ HZ5.out
      simp at g0 g1 g2 g3 g4 g5 g6
      exact bodyPost_ret (v := .tuple #[stV none none none 0 0 0 0 0 0 0 none 0 0 none 0 0 none 0 0, .int .i64 E]) (by simp [results, Tryz.results45, go_sem, g0, g1, g2, g3, g4, g5, g6]) rfl ⟨⟨_, _, rfl, fun h => absurd rfl h, fun _ => rfl, fun _ => ⟨fun _ => HE5.out, fun h => absurd h hE0⟩⟩, HQ5.out⟩
  · have hC0 : ¬ C = 0 := by simpa using hC
    go_enter Tryz.func45, Tryz.ntmps45
    go_wp2_with fail
    refine (HC.out _ (HS.out.below HB.out.2.2)).mono ?_
    rintro e w1 ⟨rfl, hb⟩
    have HB1 := hide (HB.out.on hb)
    clear hb HB HC k0 k1 k2 k3 k4 k5 k6
    obtain ⟨r0, r1, r2, r3, r4, r5, r6⟩ := HB1.out.c7 1 (w.heap.size + 1) rfl rfl rfl rfl rfl rfl rfl rfl rfl
    obtain ⟨s0, s1, s2, s3, s4, s5, s6⟩ := HB1.out.z7 1 (w.heap.size + 1) rfl rfl
    go_wp2_with fail
    have HBz := hide (((((((HB1.out.2.2.setCell (p := ⟨w.heap.size + 1, 0, none⟩) (by simp) (.slice none 0 0)).setCell (p := ⟨w.heap.size + 1, 1, none⟩) (by simp) (.slice none 0 0)).setCell (p := ⟨w.heap.size + 1, 2, none⟩) (by simp) (.slice none 0 0)).setCell (p := ⟨w.heap.size + 1, 3, none⟩) (by simp) (.int .i64 0)).setCell (p := ⟨w.heap.size + 1, 4, none⟩) (by simp) (.slice none 0 0)).setCell (p := ⟨w.heap.size + 1, 5, none⟩) (by simp) (.slice none 0 0)).setCell (p := ⟨w.heap.size + 1, 6, none⟩) (by simp) (.slice none 0 0))
    have HZ := hide (heap_setCell_same _ (w.heap.size + 1) 6 _ _ (.slice none 0 0) (heap_setCell_same _ (w.heap.size + 1) 5 _ _ (.slice none 0 0) (heap_setCell_same _ (w.heap.size + 1) 4 _ _ (.slice none 0 0) (heap_setCell_same _ (w.heap.size + 1) 3 _ _ (.int .i64 0) (heap_setCell_same _ (w.heap.size + 1) 2 _ _ (.slice none 0 0) (heap_setCell_same _ (w.heap.size + 1) 1 _ _ (.slice none 0 0) (heap_setCell_same _ (w.heap.size + 1) 0 _ _ (.slice none 0 0) (HB1.out.1 1 _ rfl))))))))
    clear HB1 r0 r1 r2 r3 r4 r5 r6 s0 s1 s2 s3 s4 s5 s6
    generalize (((((((w1.setCell ⟨w.heap.size + 1, 0, none⟩ (.slice none 0 0)).setCell ⟨w.heap.size + 1, 1, none⟩ (.slice none 0 0)).setCell ⟨w.heap.size + 1, 2, none⟩ (.slice none 0 0)).setCell ⟨w.heap.size + 1, 3, none⟩ (.int .i64 0)).setCell ⟨w.heap.size + 1, 4, none⟩ (.slice none 0 0)).setCell ⟨w.heap.size + 1, 5, none⟩ (.slice none 0 0)).setCell ⟨w.heap.size + 1, 6, none⟩ (.slice none 0 0)) = w5 at *
    have g0 := cell_of_row _ _ 0 _ _ _ HZ.out
    have g1 := cell_of_row _ _ 1 _ _ _ HZ.out
    have g2 := cell_of_row _ _ 2 _ _ _ HZ.out
    have g3 := cell_of_row _ _ 3 _ _ _ HZ.out
    have g4 := cell_of_row _ _ 4 _ _ _ HZ.out
    have g5 := cell_of_row _ _ 5 _ _ _ HZ.out
    have g6 := cell_of_row _ _ 6 _ _ _ HZ.out
    simp at g0 g1 g2 g3 g4 g5 g6
    exact bodyPost_ret (v := .tuple #[stV none none none 0 0 0 0 0 0 0 none 0 0 none 0 0 none 0 0, .int .i64 C]) (by simp [results, Tryz.results45, go_sem, g0, g1, g2, g3, g4, g5, g6]) rfl ⟨⟨_, _, rfl, fun _ => ⟨rfl, HBz.out⟩, fun _ => rfl, fun h => absurd h hC0⟩, .ofBelow HBz.out⟩
end Go.Proofs.YtcjfmbeemdcklaaGreat

/-
  'sell' (package station).
-/
namespace Go.Proofs.YtcjfmbeemdcklaaGreat
open Go.RowKit
def sellK (T : List TK) (P : List TP) (V : List Int) (W : List VW) (t : TK) : Int := if nowB W = true then sellE T P V t else 4
set_option maxHeartbeats 6400000 in
set_option maxRecDepth 100000 in
theorem keeperSell_any (K Q B : Nat) (a : KA) (T : List TK) (P : List TP) (V : List Int) (dv : Int) (D : List Int) (G : List GT) (W : List VW) (i k f t z r : Int) (w : World) (hK : Ks w K Q B a T P V dv D G W) (hl : LensOk T P V) (hlW : W.length ≤ 9223372036854775807) :
    Calls Tryz.prog 47 #[.pointer (some ⟨K, 0, none⟩), tk i k f t z r] w fun e w' => (e = .returned (.int .i64 (sellK T P V W ⟨i, k, f, t, z, r⟩)) ∧ ∃ a', Ks w' K Q B a' (if sellK T P V W ⟨i, k, f, t, z, r⟩ = 0 then soldT T ⟨i, k, f, t, z, r⟩ else T) P V dv D G W) ∧ Kq (KQ K Q) w w' := by
  have HT := hide ((Blks.nil w).more (.cells #[.int .i64 i, .int .i64 k, .int .i64 f, .int .i64 t, .int .i64 z, .int .i64 r] 34) (by simp))
  have HK := hide (hK.below HT.out.2.2)
  have hKlt := hK.lt
  have hQlt := hK.qlt
  have HN := hide (fun X (h : Ks X K Q B a T P V dv D G W) => led_any a.o1 a.o2 a.o3 T.length a.c1 P.length a.c2 V.length a.c3 dv a.od D.length a.cd (some ⟨Q, 0, none⟩) G.length a.cg a.ov a.cv W X h.kl.vws.1.ats hlW)
  have HSl := hide (fun X (h : Ks X K Q B a T P V dv D G W) => sellFV h.led hl i k f t z r)
  clear hK
  unfold sellK
  generalize nowB W = nw at *
  generalize soldT T ⟨i, k, f, t, z, r⟩ = T' at *
  generalize sellE T P V ⟨i, k, f, t, z, r⟩ = E at *
  have k0 := HK.out.c0
  have k1 := HK.out.c1
  have k2 := HK.out.c2
  have k3 := HK.out.c3
  have k4 := HK.out.c4
  have k5 := HK.out.c5
  have k6 := HK.out.c6
  cases nw
  · rw [if_neg (show ¬ false = true by decide), if_neg (show ¬ (4 : Int) = 0 by decide)]
    go_enter Tryz.func47, Tryz.ntmps47
    go_wp2_with fail
    refine (HN.out _ HK.out).mono ?_
    rintro e w1 ⟨rfl, hb⟩
    have HT1 := hide (HT.out.on hb)
    have HK1 := hide (HK.out.below hb)
    clear hb HT HK HN k0 k1 k2 k3 k4 k5 k6
    go_wp2_with fail
    go_ret
    exact ⟨⟨rfl, a, HK1.out⟩, .ofBelow HT1.out.2.2⟩
  · rw [if_pos rfl]
    obtain ⟨X1, hX1⟩ : ∃ X1, X1 = if E = 0 then T' else [] := ⟨_, rfl⟩
    obtain ⟨X2, hX2⟩ : ∃ X2, X2 = if E = 0 then P else [] := ⟨_, rfl⟩
    obtain ⟨X3, hX3⟩ : ∃ X3, X3 = if E = 0 then V else [] := ⟨_, rfl⟩
    rw [← hX1, ← hX2, ← hX3] at HSl
    obtain ⟨RT, hRT⟩ : ∃ RT, RT = if E = 0 then T' else T := ⟨_, rfl⟩
    rw [← hRT]
    have HRT := hide hRT
    clear hRT
    have HX := hide (And.intro hX1 (And.intro hX2 hX3))
    clear hX1 hX2 hX3
    go_enter Tryz.func47, Tryz.ntmps47
    go_wp2_with fail
    refine (HN.out _ HK.out).mono ?_
    rintro e wa ⟨rfl, hb⟩
    have HT1 := hide (HT.out.on hb)
    have HK1 := hide (HK.out.below hb)
    have hwa : w.heap.size ≤ wa.heap.size := HT1.out.2.2.size
    clear hb HT HK HN k0 k1 k2 k3 k4 k5 k6
    go_upto_region 3 with fail
    go_cut [5, 6] from 12 to 22 (fun s5 s6 wx => ∃ b x1 y1 x2 y2 x3 y3, s5 = .pointer (some ⟨b, 0, none⟩) ∧ s6 = .int .i64 E ∧ Hid (wa.heap.size ≤ b ∧ wx.heap[b]? = some (.cells #[.slice x1 X1.length y1, .slice x2 X2.length y2, .slice x3 X3.length y3] 26)) ∧ Hid (Led6 wa.heap.size wx x1 y1 x2 y2 x3 y3 X1 X2 X3) ∧ Hid (Below wa.heap.size wa wx))
    case first =>
      refine wp_region_reads (fun w' => Ks w' K Q B a T P V dv D G W ∧ Blks w w' [.cells #[.int .i64 i, .int .i64 k, .int .i64 f, .int .i64 t, .int .i64 z, .int .i64 r] 34]) [0, 1, 2, 3, 4, 5] 7 (by rfl) (by kernel_rfl) (by kernel_rfl) (by kernel_rfl) (fun c d v a w h => by cases d <;> exact h) ?_ ?_
      · exact ⟨HK1.out.below (Below.refl _ _).drew, HT1.out.on (Below.refl _ _).drew⟩
      refine wpPureH_step (.pointer (some ⟨K, 0, none⟩)) rfl rfl (fun w' hS => ?_) ?_
      · go_simp
      refine wpPureH_step (.pointer (some ⟨K, 0, none⟩)) rfl rfl (fun w' hS => ?_) ?_
      · go_simp
      refine wpPureH_step (.pointer (some ⟨K, 0, none⟩)) rfl rfl (fun w' hS => ?_) ?_
      · go_simp
      refine wpPureH_step (.pointer (some ⟨K, 0, none⟩)) rfl rfl (fun w' hS => ?_) ?_
      · go_simp
      refine wpPureH_step (lg a.o1 a.o2 a.o3 T.length a.c1 P.length a.c2 V.length a.c3) rfl rfl (fun w' hS => ?_) ?_
      · have k0 := hS.1.c0
        have k1 := hS.1.c1
        have k2 := hS.1.c2
        go_simp
      refine wpPureH_step (tk i k f t z r) rfl rfl (fun w' hS => ?_) ?_
      · have x0 := hS.2.cell 0 0 w.heap.size _ _ _ rfl rfl rfl
        have x1 := hS.2.cell 0 1 w.heap.size _ _ _ rfl rfl rfl
        have x2 := hS.2.cell 0 2 w.heap.size _ _ _ rfl rfl rfl
        have x3 := hS.2.cell 0 3 w.heap.size _ _ _ rfl rfl rfl
        have x4 := hS.2.cell 0 4 w.heap.size _ _ _ rfl rfl rfl
        have x5 := hS.2.cell 0 5 w.heap.size _ _ _ rfl rfl rfl
        go_simp
      refine wpPureH_nil ?_
      have HKd := hide (HK1.out.below (Below.refl _ _).drew)
      have HTd := hide (HT1.out.on (Below.refl _ _).drew)
      have HAd := hide ((Below.refl wa.heap.size wa).drew)
      have hsd : wa.heap.size ≤ wa.drew.heap.size := Nat.le_refl _
      clear HK1 HT1
      generalize (World.drew _) = w0 at *
      refine two_readyH (i := 6) (j := 10) (by kernel_rfl) rfl rfl rfl rfl (fun K hK => ?_) (fun K hK => ?_)
      · go_simp
        refine (HSl.out w0 HKd.out).mono ?_
        rintro e w1 ⟨⟨lv, rfl, hN⟩, hb⟩
        obtain ⟨x1, y1, x2, y2, x3, y3, rfl, hN6⟩ := hN.led6
        have HN := hide hN6
        clear hN hN6
        have HB := hide hb
        refine hK _ _ ⟨HKd.out.below HB.out, HTd.out.on HB.out⟩ ?_
        clear hK K hb
        refine takesH (fuel := 3) (by kernel_rfl) (fun c d v a w h => by cases d <;> exact h) ⟨HKd.out.below HB.out, HTd.out.on HB.out⟩ [7, 8, 9] _ _ (by kernel_rfl) ?_
        refine wpPureH_step (.tuple #[lg x1 x2 x3 X1.length y1 X2.length y2 X3.length y3, .int .i64 E]) rfl rfl (fun w' _ => by go_simp) ?_
        refine wpPureH_step (lg x1 x2 x3 X1.length y1 X2.length y2 X3.length y3) rfl rfl (fun w' _ => by go_simp) ?_
        refine wpPureH_step (.int .i64 E) rfl rfl (fun w' _ => by go_simp) ?_
        refine wpPureH_nil ?_
        refine one_readyH (i := 10) (by kernel_rfl) rfl rfl (fun K hK => ?_)
        go_simp
        have hba := (Below.refl w1.heap.size w1).alloc (Nat.le_refl _) (.cells #[.slice none 0 0, .slice none 0 0, .slice none 0 0] 26)
        have HBa := hide (HB.out.trans (hba.mono HB.out.size))
        have Hba := hide hba
        have hZ : (w1.alloc (.cells #[.slice none 0 0, .slice none 0 0, .slice none 0 0] 26)).heap[w1.heap.size]? = some (.cells #[.slice none 0 0, .slice none 0 0, .slice none 0 0] 26) := heap_alloc_new w1 _
        have hlb : w0.heap.size ≤ w1.heap.size := HB.out.size
        refine hK _ _ ⟨HKd.out.below HBa.out, HTd.out.on HBa.out⟩ ?_
        clear hK K hba HB
        generalize w1.alloc (.cells #[.slice none 0 0, .slice none 0 0, .slice none 0 0] 26) = w2 at *
        have r0 := cell_of_row _ _ 0 _ _ _ hZ
        have s0 := frozen_of_row _ _ 0 _ _ hZ
        have r1 := cell_of_row _ _ 1 _ _ _ hZ
        have s1 := frozen_of_row _ _ 1 _ _ hZ
        have r2 := cell_of_row _ _ 2 _ _ _ hZ
        have s2 := frozen_of_row _ _ 2 _ _ hZ
        simp at r0 r1 r2
        have HZ : Hid ((((w2.setCell ⟨w1.heap.size, 0, none⟩ (.slice x1 X1.length y1)).setCell ⟨w1.heap.size, 1, none⟩ (.slice x2 X2.length y2)).setCell ⟨w1.heap.size, 2, none⟩ (.slice x3 X3.length y3)).heap[w1.heap.size]? = some (.cells #[.slice x1 X1.length y1, .slice x2 X2.length y2, .slice x3 X3.length y3] 26)) := hide (heap_setCell_same _ w1.heap.size 2 _ _ (.slice x3 X3.length y3) (heap_setCell_same _ w1.heap.size 1 _ _ (.slice x2 X2.length y2) (heap_setCell_same _ w1.heap.size 0 _ _ (.slice x1 X1.length y1) hZ)))
        have HBz := hide (((HBa.out.setCell (p := ⟨w1.heap.size, 0, none⟩) hlb (.slice x1 X1.length y1)).setCell (p := ⟨w1.heap.size, 1, none⟩) hlb (.slice x2 X2.length y2)).setCell (p := ⟨w1.heap.size, 2, none⟩) hlb (.slice x3 X3.length y3))
        have hbz := (((Hba.out.setCell (p := ⟨w1.heap.size, 0, none⟩) (Nat.le_refl _) (.slice x1 X1.length y1)).setCell (p := ⟨w1.heap.size, 1, none⟩) (Nat.le_refl _) (.slice x2 X2.length y2)).setCell (p := ⟨w1.heap.size, 2, none⟩) (Nat.le_refl _) (.slice x3 X3.length y3))
        have HNz := hide (HN.out.below hbz)
        clear hbz Hba
        refine one_readyH (i := 11) (by kernel_rfl) rfl rfl (fun K hK => ?_)
        go_simp
        refine hK _ _ ⟨HKd.out.below HBz.out, HTd.out.on HBz.out⟩ ?_
        clear hK K r0 s0 r1 s1 r2 s2 hZ HBa HN
        generalize (((w2.setCell ⟨w1.heap.size, 0, none⟩ (.slice x1 X1.length y1)).setCell ⟨w1.heap.size, 1, none⟩ (.slice x2 X2.length y2)).setCell ⟨w1.heap.size, 2, none⟩ (.slice x3 X3.length y3)) = wz at *
        refine one_readyH (i := 12) (by kernel_rfl) rfl rfl (fun K hK => ?_)
        go_simp
        refine hK _ _ ⟨HKd.out.below HBz.out, HTd.out.on HBz.out⟩ ?_
        clear hK K
        refine wpAnyH_done (by kernel_rfl) ?_ _
        go_wp2_with fail
        go_meet
        case rel => exact ⟨w1.heap.size, x1, y1, x2, y2, x3, y3, rfl, rfl, hide ⟨by omega, HZ.out⟩, hide (HNz.out.mono (by omega)), hide (HAd.out.trans (HBz.out.mono HAd.out.size))⟩
      · go_simp
        have hba := (Below.refl w0.heap.size w0).alloc (Nat.le_refl _) (.cells #[.slice none 0 0, .slice none 0 0, .slice none 0 0] 26)
        have HB := hide hba
        have hZ0 : Hid ((w0.alloc (.cells #[.slice none 0 0, .slice none 0 0, .slice none 0 0] 26)).heap[w0.heap.size]? = some (.cells #[.slice none 0 0, .slice none 0 0, .slice none 0 0] 26)) := hide (heap_alloc_new w0 _)
        have hs1 : (w0.alloc (.cells #[.slice none 0 0, .slice none 0 0, .slice none 0 0] 26)).heap.size = w0.heap.size + 1 := by simp
        refine hK _ _ ⟨HKd.out.below HB.out, HTd.out.on HB.out⟩ ?_
        clear hK K hba
        generalize w0.alloc (.cells #[.slice none 0 0, .slice none 0 0, .slice none 0 0] 26) = w1 at *
        refine one_readyH (i := 6) (by kernel_rfl) rfl rfl (fun K hK => ?_)
        go_simp
        refine (HSl.out _ (HKd.out.below HB.out)).mono ?_
        rintro e w2 ⟨⟨lv, rfl, hN⟩, hb⟩
        obtain ⟨x1, y1, x2, y2, x3, y3, rfl, hN6⟩ := hN.led6
        have HN := hide hN6
        clear hN hN6
        have HBa := hide (HB.out.trans (hb.mono HB.out.size))
        have hZ : w2.heap[w0.heap.size]? = some (.cells #[.slice none 0 0, .slice none 0 0, .slice none 0 0] 26) := at_below hZ0.out hb
        have hlb : w0.heap.size ≤ w0.heap.size := Nat.le_refl _
        refine hK _ _ ⟨HKd.out.below HBa.out, HTd.out.on HBa.out⟩ ?_
        clear hK K hb HB hZ0
        refine takesH (fuel := 2) (by kernel_rfl) (fun c d v a w h => by cases d <;> exact h) ⟨HKd.out.below HBa.out, HTd.out.on HBa.out⟩ [7, 8, 9] _ _ (by kernel_rfl) ?_
        refine wpPureH_step (.tuple #[lg x1 x2 x3 X1.length y1 X2.length y2 X3.length y3, .int .i64 E]) rfl rfl (fun w' _ => by go_simp) ?_
        refine wpPureH_step (lg x1 x2 x3 X1.length y1 X2.length y2 X3.length y3) rfl rfl (fun w' _ => by go_simp) ?_
        refine wpPureH_step (.int .i64 E) rfl rfl (fun w' _ => by go_simp) ?_
        refine wpPureH_nil ?_
        have r0 := cell_of_row _ _ 0 _ _ _ hZ
        have s0 := frozen_of_row _ _ 0 _ _ hZ
        have r1 := cell_of_row _ _ 1 _ _ _ hZ
        have s1 := frozen_of_row _ _ 1 _ _ hZ
        have r2 := cell_of_row _ _ 2 _ _ _ hZ
        have s2 := frozen_of_row _ _ 2 _ _ hZ
        simp at r0 r1 r2
        have HZ : Hid ((((w2.setCell ⟨w0.heap.size, 0, none⟩ (.slice x1 X1.length y1)).setCell ⟨w0.heap.size, 1, none⟩ (.slice x2 X2.length y2)).setCell ⟨w0.heap.size, 2, none⟩ (.slice x3 X3.length y3)).heap[w0.heap.size]? = some (.cells #[.slice x1 X1.length y1, .slice x2 X2.length y2, .slice x3 X3.length y3] 26)) := hide (heap_setCell_same _ w0.heap.size 2 _ _ (.slice x3 X3.length y3) (heap_setCell_same _ w0.heap.size 1 _ _ (.slice x2 X2.length y2) (heap_setCell_same _ w0.heap.size 0 _ _ (.slice x1 X1.length y1) hZ)))
        have HBz := hide (((HBa.out.setCell (p := ⟨w0.heap.size, 0, none⟩) hlb (.slice x1 X1.length y1)).setCell (p := ⟨w0.heap.size, 1, none⟩) hlb (.slice x2 X2.length y2)).setCell (p := ⟨w0.heap.size, 2, none⟩) hlb (.slice x3 X3.length y3))
        have HNz := hide (Led6.mono ((((HN.out.mono (show w0.heap.size + 1 ≤ w1.heap.size by omega)).set (p := ⟨w0.heap.size, 0, none⟩) (by simp) (.slice x1 X1.length y1)).set (p := ⟨w0.heap.size, 1, none⟩) (by simp) (.slice x2 X2.length y2)).set (p := ⟨w0.heap.size, 2, none⟩) (by simp) (.slice x3 X3.length y3)) (Nat.le_succ _))
        refine one_readyH (i := 11) (by kernel_rfl) rfl rfl (fun K hK => ?_)
        go_simp
        refine hK _ _ ⟨HKd.out.below HBz.out, HTd.out.on HBz.out⟩ ?_
        clear hK K r0 s0 r1 s1 r2 s2 hZ HBa HN
        generalize (((w2.setCell ⟨w0.heap.size, 0, none⟩ (.slice x1 X1.length y1)).setCell ⟨w0.heap.size, 1, none⟩ (.slice x2 X2.length y2)).setCell ⟨w0.heap.size, 2, none⟩ (.slice x3 X3.length y3)) = wz at *
        refine one_readyH (i := 12) (by kernel_rfl) rfl rfl (fun K hK => ?_)
        go_simp
        refine hK _ _ ⟨HKd.out.below HBz.out, HTd.out.on HBz.out⟩ ?_
        clear hK K
        refine wpAnyH_done (by kernel_rfl) ?_ _
        go_wp2_with fail
        go_meet
        case rel => exact ⟨w0.heap.size, x1, y1, x2, y2, x3, y3, rfl, rfl, hide ⟨by omega, HZ.out⟩, hide (HNz.out.mono (by omega)), hide (HAd.out.trans (HBz.out.mono HAd.out.size))⟩
    case rest =>
      obtain ⟨b, x1, y1, x2, y2, x3, y3, rfl, rfl, HZ, HL, HB⟩ := hcut
      have HK2 := hide (HK1.out.below HB.out)
      have HT2 := hide (HT1.out.on HB.out)
      clear HT1 HK1 HSl
      rcases hE : (E != 0) with _ | _
      · obtain rfl : E = 0 := by simpa using hE
        obtain ⟨hx1, hx2, hx3⟩ := HX.out
        have hrt := HRT.out
        rw [if_pos rfl] at hx1 hx2 hx3 hrt
        have r0 := cell_of_row _ _ 0 _ _ _ HZ.out.2
        have r1 := cell_of_row _ _ 1 _ _ _ HZ.out.2
        have r2 := cell_of_row _ _ 2 _ _ _ HZ.out.2
        simp at r0 r1 r2
        have k0 := HK2.out.c0
        have k1 := HK2.out.c1
        have k2 := HK2.out.c2
        have z0 := HK2.out.fz 0
        have z1 := HK2.out.fz 1
        have z2 := HK2.out.fz 2
        subst hx1 hx2 hx3 hrt
        clear HX HRT
        go_wp2_with fail
        go_ret
        have hbk := HK2.out.bk
        exact ⟨⟨rfl, _, HK2.out.setLed ⟨HL.out.1.1, .new HL.out.1.2 (by omega) (by omega) (by omega)⟩ ⟨HL.out.2.1.1, .new HL.out.2.1.2 (by omega) (by omega) (by omega)⟩ ⟨HL.out.2.2.1, .new HL.out.2.2.2 (by omega) (by omega) (by omega)⟩⟩, (((Kq.ofBelow HT2.out.2.2).setCell (p := ⟨K, 0, none⟩) (.inl rfl) _).setCell (p := ⟨K, 1, none⟩) (.inl rfl) _).setCell (p := ⟨K, 2, none⟩) (.inl rfl) _⟩
      · have hE' : ¬ E = 0 := by simpa using hE
        have hrt := HRT.out
        rw [if_neg hE'] at hrt
        clear hE'
        subst hrt
        go_wp2_with fail
        go_ret
        exact ⟨⟨rfl, a, HK2.out⟩, .ofBelow HT2.out.2.2⟩
end Go.Proofs.YtcjfmbeemdcklaaGreat

/-
  'Sell' (package station).
-/
namespace Go.Proofs.YtcjfmbeemdcklaaGreat
open Go.RowKit
theorem GatesAt.set {w : World} {B : Nat} {o : Option Addr} {n c : Nat} {L : List GT} (h : GatesAt w o L) (hf : Fresh B (.slice o n c)) (hg : ∀ g ∈ L, Fresh B (.slice g.oa g.A.length g.ca) ∧ Fresh B (.slice g.od g.D.length g.cd)) {p : Addr} (hp : p.block < B) (u : Value) : GatesAt (w.setCell p u) o L := by
  intro i g hi
  obtain ⟨b, rfl, h8, h1, h2⟩ := h i g hi
  have hb : B ≤ b.block := hf _ rfl
  have hm := hg g (List.mem_of_getElem? hi)
  refine ⟨b, rfl, ⟨at_set (by omega) h8.c0, at_set' (by omega) h8.c1, at_set' (by omega) h8.c2, at_set' (by omega) h8.c3, at_set' (by omega) h8.c4, at_set' (by omega) h8.c5, at_set' (by omega) h8.c6, at_set' (by omega) h8.c7⟩, h1.set hm.1 hp u, h2.set hm.2 hp u⟩
theorem VwsAt.setF {w : World} {B : Nat} {o : Option Addr} {n c : Nat} {L : List VW} (h : VwsAt w o L) (hf : Fresh B (.slice o n c)) {p : Addr} (hp : p.block < B) (u : Value) : VwsAt (w.setCell p u) o L := by
  intro i x hi
  obtain ⟨b, rfl, a0, a1, a2⟩ := h i x hi
  have hB : B ≤ b.block := hf _ rfl
  exact ⟨b, rfl, at_set (by omega) a0, at_set' (by omega) a1, at_set' (by omega) a2⟩
theorem IntsAt.setF {w : World} {B : Nat} {o : Option Addr} {n c : Nat} {L : List Int} (h : IntsAt w o L) (hf : Fresh B (.slice o n c)) {p : Addr} (hp : p.block < B) (u : Value) : IntsAt (w.setCell p u) o L := by
  intro i x hi
  obtain ⟨b, rfl, a0⟩ := h i x hi
  have hB : B ≤ b.block := hf _ rfl
  exact ⟨b, rfl, at_set (by omega) a0⟩
theorem StR.set {w : World} {B : Nat} {v : Value} {T : List TK} {P : List TP} {V : List Int} {dv : Int} {D : List Int} {G : List GT} {W : List VW} (h : StR w B v T P V dv D G W) {p : Addr} (hp : p.block < B) (u : Value) : StR (w.setCell p u) B v T P V dv D G W := by
  obtain ⟨o1, c1, o2, c2, o3, c3, od, cd, og, cg, ov, cv, e, hs, f1, f2, f3, f4, f5, f6, f7⟩ := h.of
  obtain ⟨q1, q2, q3⟩ := hs.led.parts3
  exact ⟨⟨o1, c1, o2, c2, o3, c3, od, cd, og, cg, ov, cv, e, ⟨LedV.of (q1.set f1 hp u) (q2.set f2 hp u) (q3.set f3 hp u), hs.lok, ⟨hs.den.1.setF f4 hp u, hs.den.2⟩, hs.gts.set f5 f7 hp u, hs.gok, hs.gle, hs.gno, hs.gln, hs.vws.setF f6 hp u, hs.vle, hs.vno, hs.vln⟩, f1, f2, f3, f4, f5, f6, f7⟩⟩
theorem StR.mono {w : World} {B C : Nat} {v : Value} {T : List TK} {P : List TP} {V : List Int} {dv : Int} {D : List Int} {G : List GT} {W : List VW} (h : StR w B v T P V dv D G W) (hC : C ≤ B) : StR w C v T P V dv D G W := by
  obtain ⟨o1, c1, o2, c2, o3, c3, od, cd, og, cg, ov, cv, e, hs, f1, f2, f3, f4, f5, f6, f7⟩ := h.of
  exact ⟨⟨o1, c1, o2, c2, o3, c3, od, cd, og, cg, ov, cv, e, hs, f1.mono hC, f2.mono hC, f3.mono hC, f4.mono hC, f5.mono hC, f6.mono hC, fun g hg => ⟨(f7 g hg).1.mono hC, (f7 g hg).2.mono hC⟩⟩⟩
theorem StR.form {w : World} {B : Nat} {v : Value} {T : List TK} {P : List TP} {V : List Int} {dv : Int} {D : List Int} {G : List GT} {W : List VW} (h : StR w B v T P V dv D G W) : ∃ x1 x2 x3 n1 y1 n2 y2 n3 y3 xv x4 n4 y4 x5 n5 y5 x6 n6 y6, v = stV x1 x2 x3 n1 y1 n2 y2 n3 y3 xv x4 n4 y4 x5 n5 y5 x6 n6 y6 := by
  obtain ⟨o1, c1, o2, c2, o3, c3, od, cd, og, cg, ov, cv, e, -⟩ := h.of
  exact ⟨_, _, _, _, _, _, _, _, _, _, _, _, _, _, _, _, _, _, _, e⟩
set_option maxHeartbeats 3200000 in
set_option maxRecDepth 100000 in
theorem sell1_any (K Q B : Nat) (a : KA) (T : List TK) (P : List TP) (V : List Int) (dv : Int) (D : List Int) (G : List GT) (W : List VW) (b : Nat) (i k f t z r : Int) (w : World) (hK : Ks w K Q B a T P V dv D G W) (hl : LensOk T P V) (hlW : W.length ≤ 9223372036854775807) (hb : w.heap[b]? = some (.cells #[.int .i64 i, .int .i64 k, .int .i64 f, .int .i64 t, .int .i64 z, .int .i64 r] 34)) :
    Calls Tryz.prog 46 #[.pointer (some ⟨K, 0, none⟩), .pointer (some ⟨b, 0, none⟩)] w fun e w' => (e = .returned (.int .i64 (sellK T P V W ⟨i, k, f, t, z, r⟩)) ∧ ∃ a', Ks w' K Q B a' (if sellK T P V W ⟨i, k, f, t, z, r⟩ = 0 then soldT T ⟨i, k, f, t, z, r⟩ else T) P V dv D G W) ∧ Kq (KQ K Q) w w' := by
  have HS := hide (keeperSell_any K Q B a T P V dv D G W i k f t z r w hK hl hlW)
  have r0 := cell_of_row _ _ 0 _ _ _ hb
  have r1 := cell_of_row _ _ 1 _ _ _ hb
  have r2 := cell_of_row _ _ 2 _ _ _ hb
  have r3 := cell_of_row _ _ 3 _ _ _ hb
  have r4 := cell_of_row _ _ 4 _ _ _ hb
  have r5 := cell_of_row _ _ 5 _ _ _ hb
  simp at r0 r1 r2 r3 r4 r5
  clear hK hb
  generalize sellK T P V W ⟨i, k, f, t, z, r⟩ = E at *
  obtain ⟨RT, hRT⟩ : ∃ RT, RT = if E = 0 then soldT T ⟨i, k, f, t, z, r⟩ else T := ⟨_, rfl⟩
  rw [← hRT] at HS ⊢
  clear hRT
  go_enter Tryz.func46, Tryz.ntmps46
  go_wp2_with fail
  refine HS.out.mono ?_
  rintro e w1 ⟨⟨rfl, hk⟩, hf⟩
  have HK := hide hk
  have HF := hide hf
  clear hk hf HS r0 r1 r2 r3 r4 r5
  go_wp2_with fail
  go_ret
  exact ⟨⟨rfl, HK.out⟩, HF.out⟩
def sellS (T : List TK) (P : List TP) (V : List Int) (dv : Int) (D : List Int) (G : List GT) (W : List VW) (t : TK) : Int := if chkS T P V dv D G W = 0 then sellK T P V W t else chkS T P V dv D G W
set_option maxRecDepth 100000 in
theorem enterS1 (args : Array Value) (W : World) : (callFunc 46 args).run Tryz.prog W = .ok (.enter 46 args) W := by
  simp [go_sem]
theorem gates_lens {dv : Int} {P : List TP} {G G' : List GT} (h : ∀ (q : Nat) g, G[q]? = some g → gateE dv P q g = 0) (hm : G'.map GT.p = G.map GT.p) : ∀ (q : Nat) g, G'[q]? = some g → g.A.length ≤ 12 ∧ g.D.length ≤ 12 ∧ 0 ≤ g.s ∧ g.s ≤ 99 := by
  intro q g hg
  have h1 : (G'.map GT.p)[q]? = some g.p := by rw [List.getElem?_map, hg]; rfl
  rw [hm, List.getElem?_map, Option.map_eq_some_iff] at h1
  obtain ⟨x, hx, hp⟩ := h1
  have := gate_lens (h q x hx)
  simp only [GT.p, GP.mk.injEq] at hp
  obtain ⟨-, -, e3, e4, -, e6, -, -⟩ := hp
  rw [e3, e4, e6] at this
  exact this
theorem gates_lnS {T : List TK} {P : List TP} {V : List Int} {dv : Int} {D : List Int} {G G' : List GT} {W : List VW} (h : chkS T P V dv D G W = 0) (hm : G'.map GT.p = G.map GT.p) : LnS T P V D G' W := by
  obtain ⟨p1, p2, p3, p4, -, p6⟩ := chkS_right h
  have hl : G'.length = G.length := by simpa using congrArg List.length hm
  refine ⟨LensOk.of p1, by have := (chkD_right p2).2.2.1; omega, fun g hg => ?_, by omega, by omega⟩
  obtain ⟨i, hi⟩ := List.mem_iff_getElem?.1 hg
  have := gates_lens p4 hm i g hi
  exact ⟨by omega, by omega⟩
set_option maxHeartbeats 12800000 in
set_option maxRecDepth 100000 in
theorem stationSell_any (T : List TK) (P : List TP) (V : List Int) (dv : Int) (D : List Int) (G : List GT) (W : List VW) (o1 o2 o3 od og ov : Option Addr) (c1 c2 c3 cd cg cv : Nat) (i k f t z r : Int) (w : World) (hs : StW w o1 o2 o3 c1 c2 c3 T P V od cd D og cg G ov cv W) :
    Calls Tryz.prog 11 #[stV o1 o2 o3 T.length c1 P.length c2 V.length c3 dv od D.length cd og G.length cg ov W.length cv, tk i k f t z r] w fun e w' => (∃ v, e = .returned (.tuple #[v, .int .i64 (sellS T P V dv D G W ⟨i, k, f, t, z, r⟩)]) ∧ (sellS T P V dv D G W ⟨i, k, f, t, z, r⟩ ≠ 0 → v = stV none none none 0 0 0 0 0 0 0 none 0 0 none 0 0 none 0 0) ∧
      (sellS T P V dv D G W ⟨i, k, f, t, z, r⟩ = 0 → ∃ G', G'.map GT.p = G.map GT.p ∧ StR w' w.heap.size v (soldT T ⟨i, k, f, t, z, r⟩) P V dv D G' W)) ∧ Below w.heap.size w w' := by
  have HB := hide ((((Blks.nil w).more (.cells #[.slice o1 T.length c1, .slice o2 P.length c2, .slice o3 V.length c3, .int .i64 dv, .slice od D.length cd, .slice og G.length cg, .slice ov W.length cv] 32) (by simp)).more (.cells #[.int .i64 i, .int .i64 k, .int .i64 f, .int .i64 t, .int .i64 z, .int .i64 r] 34) (by simp)).more (.cells #[.slice none 0 0, .slice none 0 0, .slice none 0 0, .int .i64 0, .slice none 0 0, .slice none 0 0, .slice none 0 0] 32) (by simp))
  have HS := hide (hs.below HB.out.2.2)
  have hz : (((w.alloc (.cells #[.slice o1 T.length c1, .slice o2 P.length c2, .slice o3 V.length c3, .int .i64 dv, .slice od D.length cd, .slice og G.length cg, .slice ov W.length cv] 32)).alloc (.cells #[.int .i64 i, .int .i64 k, .int .i64 f, .int .i64 t, .int .i64 z, .int .i64 r] 34)).alloc (.cells #[.slice none 0 0, .slice none 0 0, .slice none 0 0, .int .i64 0, .slice none 0 0, .slice none 0 0, .slice none 0 0] 32)).heap.size = w.heap.size + 1 + 1 + 1 := by simp
  have HC := hide (changed_any 46 #[.pointer (some ⟨w.heap.size + 1, 0, none⟩)] enterS1 (fun _ => False) T P V dv D G W o1 o2 o3 od og ov c1 c2 c3 cd cg cv _ HS.out (fun _ h => h.elim)
    (fun E _ => E = sellK T P V W ⟨i, k, f, t, z, r⟩) (fun _ T' P' V' dv' D' G' W' _ => sellK T P V W ⟨i, k, f, t, z, r⟩ = 0 ∧ T' = soldT T ⟨i, k, f, t, z, r⟩ ∧ P' = P ∧ V' = V ∧ dv' = dv ∧ D' = D ∧ G'.map GT.p = G.map GT.p ∧ W' = W)
    (fun _ _ _ _ _ h => h) (fun _ _ _ _ _ _ _ _ _ _ _ _ h => h) (fun h0 w1 K Q a G' hm hk hb => by
      obtain ⟨p1, p2, p3, p4, -, p6⟩ := chkS_right h0
      have hcell := at_below (HB.out.1 1 _ rfl) hb
      refine (sell1_any K Q _ a T P V dv D G' W (w.heap.size + 1) i k f t z r w1 hk (LensOk.of p1) (by omega) hcell).mono ?_
      rintro e w2 ⟨⟨rfl, a', hk'⟩, hf⟩
      refine ⟨_, rfl, hf.mono (fun x _ h => h.elim .inl (fun h => .inr (.inl h))), fun _ => rfl, fun h => ⟨a', soldT T ⟨i, k, f, t, z, r⟩, P, V, dv, D, G', W, ?_, ?_, h, rfl, rfl, rfl, rfl, rfl, hm, rfl⟩⟩
      · rw [if_pos h] at hk'
        exact hk'
      · have h1 := gates_lnS h0 hm
        refine ⟨⟨?_, h1.1.2⟩, h1.2⟩
        have := (chkL_right p1).1
        have hp : posT T i ≤ T.length := List.findIdx_le_length
        simp only [soldT, List.length_append, List.length_take, List.length_drop, List.length_singleton]
        omega))
  rw [hz] at HC
  clear hs hz
  obtain ⟨E, hE⟩ : ∃ E, E = sellS T P V dv D G W ⟨i, k, f, t, z, r⟩ := ⟨_, rfl⟩
  rw [← hE]
  have HE := hide hE
  clear hE
  obtain ⟨k0, k1, k2, k3, k4, k5, k6⟩ := HB.out.c7 0 w.heap.size rfl rfl rfl rfl rfl rfl rfl rfl rfl
  go_enter Tryz.func11, Tryz.ntmps11
  go_wp2_with fail
  refine HC.out.mono ?_
  rintro e w1 ⟨⟨v, E', rfl, h1, h2, h3⟩, hkq⟩
  have hEE : E' = E := by
    rw [HE.out, sellS]
    by_cases h0 : chkS T P V dv D G W = 0
    · rw [if_pos h0]
      by_cases hE0 : E' = 0
      · obtain ⟨a, T', P', V', dv', D', G', W', -, hk, -⟩ := (h3 h0).2 hE0
        rw [hE0, hk]
      · exact (h3 h0).1 hE0
    · rw [if_neg h0]
      exact (h1 h0).1
  subst hEE
  have h4 : E' = 0 → ∃ G', G'.map GT.p = G.map GT.p ∧ StR w1 (w.heap.size + 1 + 1 + 1 + 1 + 1) v (soldT T ⟨i, k, f, t, z, r⟩) P V dv D G' W := by
    intro h0
    by_cases hc : chkS T P V dv D G W = 0
    · obtain ⟨a, T', P', V', dv', D', G', W', hr, -, rfl, rfl, rfl, rfl, rfl, hm, rfl⟩ := (h3 hc).2 h0
      exact ⟨G', hm, hr⟩
    · have := (h1 hc).1
      omega
  have hv : ∃ x1 x2 x3 n1 y1 n2 y2 n3 y3 xv x4 n4 y4 x5 n5 y5 x6 n6 y6, v = stV x1 x2 x3 n1 y1 n2 y2 n3 y3 xv x4 n4 y4 x5 n5 y5 x6 n6 y6 := by
    by_cases h0 : E' = 0
    · obtain ⟨G', -, hr⟩ := h4 h0
      exact hr.form
    · exact ⟨_, _, _, _, _, _, _, _, _, _, _, _, _, _, _, _, _, _, _, h2 h0⟩
  obtain ⟨x1, x2, x3, n1, y1, n2, y2, n3, y3, xv, x4, n4, y4, x5, n5, y5, x6, n6, y6, rfl⟩ := hv
  have H2 := hide h2
  have H4 := hide h4
  have HB1 := hide (HB.out.kq hkq (fun _ _ h => h))
  clear h1 h2 h3 h4 hkq HB HS HC HE k0 k1 k2 k3 k4 k5 k6
  obtain ⟨r0, r1, r2, r3, r4, r5, r6⟩ := HB1.out.c7 2 (w.heap.size + 1 + 1) rfl rfl rfl rfl rfl rfl rfl rfl rfl
  obtain ⟨s0, s1, s2, s3, s4, s5, s6⟩ := HB1.out.z7 2 (w.heap.size + 1 + 1) rfl rfl
  go_wp2_with fail
  have HZ := hide (heap_setCell_same _ (w.heap.size + 1 + 1) 6 _ _ (.slice x6 n6 y6) (heap_setCell_same _ (w.heap.size + 1 + 1) 5 _ _ (.slice x5 n5 y5) (heap_setCell_same _ (w.heap.size + 1 + 1) 4 _ _ (.slice x4 n4 y4) (heap_setCell_same _ (w.heap.size + 1 + 1) 3 _ _ (.int .i64 xv) (heap_setCell_same _ (w.heap.size + 1 + 1) 2 _ _ (.slice x3 n3 y3) (heap_setCell_same _ (w.heap.size + 1 + 1) 1 _ _ (.slice x2 n2 y2) (heap_setCell_same _ (w.heap.size + 1 + 1) 0 _ _ (.slice x1 n1 y1) (HB1.out.1 2 _ rfl))))))))
  have HBz := hide (((((((HB1.out.2.2.setCell (p := ⟨w.heap.size + 1 + 1, 0, none⟩) (by simp; try omega) (.slice x1 n1 y1)).setCell (p := ⟨w.heap.size + 1 + 1, 1, none⟩) (by simp; try omega) (.slice x2 n2 y2)).setCell (p := ⟨w.heap.size + 1 + 1, 2, none⟩) (by simp; try omega) (.slice x3 n3 y3)).setCell (p := ⟨w.heap.size + 1 + 1, 3, none⟩) (by simp; try omega) (.int .i64 xv)).setCell (p := ⟨w.heap.size + 1 + 1, 4, none⟩) (by simp; try omega) (.slice x4 n4 y4)).setCell (p := ⟨w.heap.size + 1 + 1, 5, none⟩) (by simp; try omega) (.slice x5 n5 y5)).setCell (p := ⟨w.heap.size + 1 + 1, 6, none⟩) (by simp; try omega) (.slice x6 n6 y6))
  have H4z := hide (fun h => (H4.out h).imp fun _ hm => And.intro hm.1 (((((((hm.2.set (p := ⟨w.heap.size + 1 + 1, 0, none⟩) (by simp; try omega) (.slice x1 n1 y1)).set (p := ⟨w.heap.size + 1 + 1, 1, none⟩) (by simp; try omega) (.slice x2 n2 y2)).set (p := ⟨w.heap.size + 1 + 1, 2, none⟩) (by simp; try omega) (.slice x3 n3 y3)).set (p := ⟨w.heap.size + 1 + 1, 3, none⟩) (by simp; try omega) (.int .i64 xv)).set (p := ⟨w.heap.size + 1 + 1, 4, none⟩) (by simp; try omega) (.slice x4 n4 y4)).set (p := ⟨w.heap.size + 1 + 1, 5, none⟩) (by simp; try omega) (.slice x5 n5 y5)).set (p := ⟨w.heap.size + 1 + 1, 6, none⟩) (by simp; try omega) (.slice x6 n6 y6)))
  clear HB1 H4 r0 r1 r2 r3 r4 r5 r6 s0 s1 s2 s3 s4 s5 s6
  generalize (((((((w1.setCell ⟨w.heap.size + 1 + 1, 0, none⟩ (.slice x1 n1 y1)).setCell ⟨w.heap.size + 1 + 1, 1, none⟩ (.slice x2 n2 y2)).setCell ⟨w.heap.size + 1 + 1, 2, none⟩ (.slice x3 n3 y3)).setCell ⟨w.heap.size + 1 + 1, 3, none⟩ (.int .i64 xv)).setCell ⟨w.heap.size + 1 + 1, 4, none⟩ (.slice x4 n4 y4)).setCell ⟨w.heap.size + 1 + 1, 5, none⟩ (.slice x5 n5 y5)).setCell ⟨w.heap.size + 1 + 1, 6, none⟩ (.slice x6 n6 y6)) = w5 at *
  have g0 := cell_of_row _ _ 0 _ _ _ HZ.out
  have g1 := cell_of_row _ _ 1 _ _ _ HZ.out
  have g2 := cell_of_row _ _ 2 _ _ _ HZ.out
  have g3 := cell_of_row _ _ 3 _ _ _ HZ.out
  have g4 := cell_of_row _ _ 4 _ _ _ HZ.out
  have g5 := cell_of_row _ _ 5 _ _ _ HZ.out
  have g6 := cell_of_row _ _ 6 _ _ _ HZ.out
  simp at g0 g1 g2 g3 g4 g5 g6
  exact bodyPost_ret (v := .tuple #[stV x1 x2 x3 n1 y1 n2 y2 n3 y3 xv x4 n4 y4 x5 n5 y5 x6 n6 y6, .int .i64 E']) (by simp [results, Tryz.results11, go_sem, g0, g1, g2, g3, g4, g5, g6]) rfl ⟨⟨_, rfl, H2.out, fun h => (H4z.out h).imp fun _ hm => ⟨hm.1, hm.2.mono (by omega)⟩⟩, HBz.out⟩
end Go.Proofs.YtcjfmbeemdcklaaGreat

/-
  'letThrough' (package station).
-/
namespace Go.Proofs.YtcjfmbeemdcklaaGreat
open Go.RowKit
def Gn (F : Nat) (w : World) (g : GT) : Prop := (TapsV w (.slice g.oa g.A.length g.ca) g.A ∧ Fresh F (.slice g.oa g.A.length g.ca)) ∧ IntsV w (.slice g.od g.D.length g.cd) g.D ∧ Fresh F (.slice g.od g.D.length g.cd)
theorem Gn.below {F : Nat} {w w' : World} {g : GT} (h : Gn F w g) (hb : Below w.heap.size w w') : Gn F w' g := ⟨⟨h.1.1.below hb, h.1.2⟩, h.2.1.below hb, h.2.2⟩
theorem Gn.mono {F E : Nat} {w : World} {g : GT} (h : Gn F w g) (hE : E ≤ F) : Gn E w g := ⟨⟨h.1.1, h.1.2.mono hE⟩, h.2.1, h.2.2.mono hE⟩
def GOff (g : GT) (b : Nat) : Prop := Off g.oa g.A b ∧ Off g.od g.D b
theorem Gn.setO {F : Nat} {w : World} {g : GT} (h : Gn F w g) {p : Addr} (ho : GOff g p.block) (u : Value) : Gn F (w.setCell p u) g := ⟨⟨h.1.1.setO ho.1 u, h.1.2⟩, h.2.1.setO ho.2 u, h.2.2⟩
theorem Gn.offlt {F : Nat} {w : World} {g : GT} (h : Gn F w g) : GOff g w.heap.size := ⟨off_ltP h.1.1, off_ltI h.2.1⟩
theorem Gn.offnew {F : Nat} {w : World} {g : GT} (h : Gn F w g) {b : Nat} (hb : b < F) : GOff g b := ⟨off_fresh h.1.2 hb, off_fresh h.2.2 hb⟩
theorem Gn.zero (F : Nat) (w : World) (i z s v l u : Int) : Gn F w ⟨i, z, s, none, [], 0, v, none, [], 0, l, u⟩ :=
  ⟨⟨⟨none, 0, rfl, fun i p h => by simp at h, by simp, fun _ => rfl⟩, fun k hk => by simp [Value.ownBlock] at hk⟩, ⟨none, 0, rfl, fun i p h => by simp at h, by simp, fun _ => rfl⟩, fun k hk => by simp [Value.ownBlock] at hk⟩
theorem gateTap_one (g : GT) (ti k f t y r m : Int) (w : World) (hP : TapsV w (.slice g.oa g.A.length g.ca) g.A) (hD : IntsV w (.slice g.od g.D.length g.cd) g.D) (hlP : g.A.length ≤ 9223372036854775807) (hlD : g.D.length ≤ 9223372036854775807) :
    Calls Tryz.prog 30 #[gtV g.i g.z g.s g.oa g.A.length g.ca g.v g.od g.D.length g.cd g.l g.u, tk ti k f t y r, .int .i64 m] w fun e w' => (∃ (x : GT) (p : TP), e = .returned (.tuple #[gtV x.i x.z x.s x.oa x.A.length x.ca x.v x.od x.D.length x.cd x.l x.u, tp p.a p.g p.s p.m p.z, .int .i64 (tapG g.i g.z g.s g.A g.v g.D g.l g.u ⟨ti, k, f, t, y, r⟩ m)]) ∧ Gn w.heap.size w' x ∧
      (tapG g.i g.z g.s g.A g.v g.D g.l g.u ⟨ti, k, f, t, y, r⟩ m = 0 → x.p = ⟨g.i, g.z, g.s + 1, g.A ++ [⟨ti, g.i, g.s + 1, m, g.z⟩], g.v, g.D, g.l - 1, g.u⟩)) ∧ Below w.heap.size w w' := by
  by_cases hE : tapG g.i g.z g.s g.A g.v g.D g.l g.u ⟨ti, k, f, t, y, r⟩ m = 0
  · refine (gateTap_ok g.i g.z g.s g.oa g.A g.ca g.v g.od g.D g.cd g.l g.u ti k f t y r m w hP.ats hD.ats hlP hlD hP.eqs.2.2.2 hE).mono ?_
    rintro e w' ⟨⟨x, rfl, oa, ca, od, cd, rfl, h1, h2, h3, h4⟩, hb⟩
    exact ⟨⟨⟨g.i, g.z, g.s + 1, oa, g.A ++ [⟨ti, g.i, g.s + 1, m, g.z⟩], ca, g.v, od, g.D, cd, g.l - 1, g.u⟩, ⟨ti, g.i, g.s + 1, m, g.z⟩, by rw [hE], ⟨⟨h1, h2⟩, h3, h4⟩, fun _ => rfl⟩, hb⟩
  · refine (gateTap_err g.i g.z g.s g.oa g.A g.ca g.v g.od g.D g.cd g.l g.u ti k f t y r m w hP.ats hD.ats hlP hlD hE).mono ?_
    rintro e w' ⟨rfl, hb⟩
    exact ⟨⟨⟨0, 0, 0, none, [], 0, 0, none, [], 0, 0, 0⟩, ⟨0, 0, 0, 0, 0⟩, rfl, .zero _ _ _ _ _ _ _ _, fun h => absurd h hE⟩, hb⟩
set_option maxHeartbeats 12800000 in
set_option maxRecDepth 100000 in
theorem letThrough_any (K Q B : Nat) (a : KA) (T : List TK) (P : List TP) (V : List Int) (dv : Int) (D : List Int) (G : List GT) (W : List VW) (q : Nat) (g : GT) (i k f t z r m : Int) (w : World) (hK : Ks w K Q B a T P V dv D G W) (hq : G[q]? = some g) (hlA : g.A.length ≤ 9223372036854775807) (hlD : g.D.length ≤ 9223372036854775807) :
    Calls Tryz.prog 106 #[.pointer (some ⟨K, 0, none⟩), tk i k f t z r, .int .i64 (q : Int), .int .i64 m] w fun e w' => (∃ E, E = tapG g.i g.z g.s g.A g.v g.D g.l g.u ⟨i, k, f, t, z, r⟩ m ∧ e = .returned (.int .i64 E) ∧ (E ≠ 0 → Ks w' K Q B a T P V dv D G W) ∧
      (E = 0 → ∃ x : GT, x.p = ⟨g.i, g.z, g.s + 1, g.A ++ [⟨i, g.i, g.s + 1, m, g.z⟩], g.v, g.D, g.l - 1, g.u⟩ ∧ Ks w' K Q B a T P V dv D (G.set q x) W)) ∧ Kq (KQ K Q) w w' := by
  have HT := hide ((Blks.nil w).more (.cells #[.int .i64 i, .int .i64 k, .int .i64 f, .int .i64 t, .int .i64 z, .int .i64 r] 34) (by simp))
  have HK1 := hide (hK.below HT.out.2.2)
  have HK0 := hide hK
  have hKlt := hK.lt
  have hQlt := hK.qlt
  have hbk := hK.bk
  have hql := (List.getElem?_eq_some_iff.1 hq).1
  have HTap := hide (fun X (h : Ks X K Q B a T P V dv D G W) => gateTap_one g i k f t z r m X (h.kl.gts g (List.mem_of_getElem? hq)).1.1 (h.kl.gts g (List.mem_of_getElem? hq)).2.1 hlA hlD)
  have Hq := hide hq
  have hi1 : (0 : Int) ≤ (q : Int) := by omega
  have hi2 : (q : Int) < (G.length : Int) := by omega
  have hadd := own_addrZ Q (q * 8)
  obtain ⟨E, hE⟩ : ∃ E, E = tapG g.i g.z g.s g.A g.v g.D g.l g.u ⟨i, k, f, t, z, r⟩ m := ⟨_, rfl⟩
  rw [← hE] at HTap
  have HE := hide hE
  obtain ⟨GX, hGX⟩ : ∃ GX : GP, GX = ⟨g.i, g.z, g.s + 1, g.A ++ [⟨i, g.i, g.s + 1, m, g.z⟩], g.v, g.D, g.l - 1, g.u⟩ := ⟨_, rfl⟩
  rw [← hGX] at HTap ⊢
  clear hK hq hE hGX
  go_enter Tryz.func106, Tryz.ntmps106
  go_upto_region 1 with fail
  have hw1 : w.heap.size < (w.alloc (.cells #[.int .i64 i, .int .i64 k, .int .i64 f, .int .i64 t, .int .i64 z, .int .i64 r] 34)).heap.size := by simp
  generalize w.alloc (.cells #[.int .i64 i, .int .i64 k, .int .i64 f, .int .i64 t, .int .i64 z, .int .i64 r] 34) = wa at *
  go_cut [9, 10, 11] from 12 to 27 (fun s9 s10 s11 wx => ∃ (b9 : Nat) (b10 : Nat) (x : GT) (p : TP), s9 = .pointer (some ⟨b9, 0, none⟩) ∧ s10 = .pointer (some ⟨b10, 0, none⟩) ∧ s11 = .int .i64 E ∧ Hid (w.heap.size ≤ b9 ∧ wx.heap[b9]? = some (.cells #[.int .i64 x.i, .int .i64 x.z, .int .i64 x.s, .slice x.oa x.A.length x.ca, .int .i64 x.v, .slice x.od x.D.length x.cd, .int .i64 x.l, .int .i64 x.u] 49)) ∧ Hid (Gn w.heap.size wx x) ∧ Hid (E = 0 → x.p = GX) ∧ Hid (Below w.heap.size w wx))
  case first =>
    refine wp_region_reads (fun w' => Ks w' K Q B a T P V dv D G W ∧ Blks w w' [.cells #[.int .i64 i, .int .i64 k, .int .i64 f, .int .i64 t, .int .i64 z, .int .i64 r] 34]) [0, 1, 2, 3, 4, 5, 6, 7, 8, 9] 10 (by rfl) (by kernel_rfl) (by kernel_rfl) (by kernel_rfl) (fun c d v a w h => by cases d <;> exact h) ?_ ?_
    · exact ⟨HK1.out.below (Below.refl _ _).drew, HT.out.on (Below.refl _ _).drew⟩
    refine wpPureH_step (.pointer (some ⟨K, 0, none⟩)) rfl rfl (fun w' hS => ?_) ?_
    · go_simp
    refine wpPureH_step (.pointer (some ⟨K, 0, none⟩)) rfl rfl (fun w' hS => ?_) ?_
    · go_simp
    refine wpPureH_step (.pointer (some ⟨K, 0, none⟩)) rfl rfl (fun w' hS => ?_) ?_
    · go_simp
    refine wpPureH_step (.pointer (some ⟨K, 5, none⟩)) rfl rfl (fun w' hS => ?_) ?_
    · go_simp
    refine wpPureH_step (.slice (some ⟨Q, 0, none⟩) G.length a.cg) rfl rfl (fun w' hS => ?_) ?_
    · have k5 := hS.1.c5
      go_simp
    refine wpPureH_step (.int .i64 (q : Int)) rfl rfl (fun w' hS => ?_) ?_
    · go_simp
    refine wpPureH_step (.pointer (some ⟨Q, q * 8, none⟩)) rfl rfl (fun w' hS => ?_) ?_
    · go_simp
    refine wpPureH_step (gtV g.i g.z g.s g.oa g.A.length g.ca g.v g.od g.D.length g.cd g.l g.u) rfl rfl (fun w' hS => ?_) ?_
    · have g0 := hS.1.g0 Hq.out
      have g1 := hS.1.g1 Hq.out
      have g2 := hS.1.g2 Hq.out
      have g3 := hS.1.g3 Hq.out
      have g4 := hS.1.g4 Hq.out
      have g5 := hS.1.g5 Hq.out
      have g6 := hS.1.g6 Hq.out
      have g7 := hS.1.g7 Hq.out
      go_simp
    refine wpPureH_step (tk i k f t z r) rfl rfl (fun w' hS => ?_) ?_
    · have x0 := hS.2.cell 0 0 w.heap.size _ _ _ rfl rfl rfl
      have x1 := hS.2.cell 0 1 w.heap.size _ _ _ rfl rfl rfl
      have x2 := hS.2.cell 0 2 w.heap.size _ _ _ rfl rfl rfl
      have x3 := hS.2.cell 0 3 w.heap.size _ _ _ rfl rfl rfl
      have x4 := hS.2.cell 0 4 w.heap.size _ _ _ rfl rfl rfl
      have x5 := hS.2.cell 0 5 w.heap.size _ _ _ rfl rfl rfl
      go_simp
    refine wpPureH_step (.int .i64 m) rfl rfl (fun w' hS => ?_) ?_
    · go_simp
    refine wpPureH_nil ?_
    have HKd := hide (HK1.out.below (Below.refl _ _).drew)
    have HTd := hide (HT.out.on (Below.refl _ _).drew)
    have HAd := hide (HTd.out.2.2)
    have hsd : w.heap.size ≤ wa.drew.heap.size := by rw [show wa.drew.heap.size = wa.heap.size from rfl]; omega
    clear HK1 HT hw1
    generalize (World.drew _) = w0 at *
    refine three_readyH (i := 10) (j := 15) (k := 16) (by kernel_rfl) rfl rfl rfl rfl rfl rfl (fun K hK => ?_) (fun K hK => ?_) (fun K hK => ?_)
    · go_simp
      refine (HTap.out w0 HKd.out).mono ?_
      rintro e v1 ⟨⟨x, p, rfl, hN, hX⟩, hb⟩
      have HN := hide hN
      have HX := hide hX
      clear hN hX
      have HB1 := hide (hb)
      have u1 : w0.heap.size ≤ v1.heap.size := HB1.out.size
      refine hK _ _ ⟨HKd.out.below HB1.out, HTd.out.on HB1.out⟩ ?_
      clear hK K hb  
      refine takesH (fuel := 5) (by kernel_rfl) (fun c d v a w h => by cases d <;> exact h) ⟨HKd.out.below HB1.out, HTd.out.on HB1.out⟩ [11, 12, 13, 14] _ _ (by kernel_rfl) ?_
      refine wpPureH_step (.tuple #[gtV x.i x.z x.s x.oa x.A.length x.ca x.v x.od x.D.length x.cd x.l x.u, tp p.a p.g p.s p.m p.z, .int .i64 E]) rfl rfl (fun w' _ => by go_simp) ?_
      refine wpPureH_step (gtV x.i x.z x.s x.oa x.A.length x.ca x.v x.od x.D.length x.cd x.l x.u) rfl rfl (fun w' _ => by go_simp) ?_
      refine wpPureH_step (tp p.a p.g p.s p.m p.z) rfl rfl (fun w' _ => by go_simp) ?_
      refine wpPureH_step (.int .i64 E) rfl rfl (fun w' _ => by go_simp) ?_
      refine wpPureH_nil ?_
      refine two_readyH (i := 15) (j := 16) (by kernel_rfl) rfl rfl rfl rfl (fun K hK => ?_) (fun K hK => ?_)
      · go_simp
        have hba := (Below.refl v1.heap.size v1).alloc (Nat.le_refl _) (.cells #[.int .i64 0, .int .i64 0, .int .i64 0, .slice none 0 0, .int .i64 0, .slice none 0 0, .int .i64 0, .int .i64 0] 49)
        have HB2 := hide (HB1.out.trans (hba.mono HB1.out.size))
        have Z2_15 : Hid ((v1.alloc (.cells #[.int .i64 0, .int .i64 0, .int .i64 0, .slice none 0 0, .int .i64 0, .slice none 0 0, .int .i64 0, .int .i64 0] 49)).heap[v1.heap.size]? = some (.cells #[.int .i64 0, .int .i64 0, .int .i64 0, .slice none 0 0, .int .i64 0, .slice none 0 0, .int .i64 0, .int .i64 0] 49)) := hide (heap_alloc_new v1 _)
        have q2 : v1.heap.size < (v1.alloc (.cells #[.int .i64 0, .int .i64 0, .int .i64 0, .slice none 0 0, .int .i64 0, .slice none 0 0, .int .i64 0, .int .i64 0] 49)).heap.size := by simp
        have O2_15 := hide (HN.out.offlt)
        have N2 := hide (HN.out.below hba)
        refine hK _ _ ⟨HKd.out.below HB2.out, HTd.out.on HB2.out⟩ ?_
        clear hK K hba HB1  HN
        generalize v1.alloc (.cells #[.int .i64 0, .int .i64 0, .int .i64 0, .slice none 0 0, .int .i64 0, .slice none 0 0, .int .i64 0, .int .i64 0] 49) = v2 at *
        refine one_readyH (i := 16) (by kernel_rfl) rfl rfl (fun K hK => ?_)
        go_simp
        have hba := (Below.refl v2.heap.size v2).alloc (Nat.le_refl _) (.cells #[.int .i64 0, .int .i64 0, .int .i64 0, .int .i64 0, .int .i64 0] 58)
        have HB3 := hide (HB2.out.trans (hba.mono HB2.out.size))
        have Z3_15 := hide (at_below Z2_15.out hba)
        have Z3_16 : Hid ((v2.alloc (.cells #[.int .i64 0, .int .i64 0, .int .i64 0, .int .i64 0, .int .i64 0] 58)).heap[v2.heap.size]? = some (.cells #[.int .i64 0, .int .i64 0, .int .i64 0, .int .i64 0, .int .i64 0] 58)) := hide (heap_alloc_new v2 _)
        have q3 : v2.heap.size < (v2.alloc (.cells #[.int .i64 0, .int .i64 0, .int .i64 0, .int .i64 0, .int .i64 0] 58)).heap.size := by simp
        have O3_16 := hide (N2.out.offlt)
        have N3 := hide (N2.out.below hba)
        refine hK _ _ ⟨HKd.out.below HB3.out, HTd.out.on HB3.out⟩ ?_
        clear hK K hba HB2 Z2_15 N2
        generalize v2.alloc (.cells #[.int .i64 0, .int .i64 0, .int .i64 0, .int .i64 0, .int .i64 0] 58) = v3 at *
        have hZ := Z3_15.out
        have r0 := cell_of_row _ _ 0 _ _ _ hZ
        have s0 := frozen_of_row _ _ 0 _ _ hZ
        have r1 := cell_of_row _ _ 1 _ _ _ hZ
        have s1 := frozen_of_row _ _ 1 _ _ hZ
        have r2 := cell_of_row _ _ 2 _ _ _ hZ
        have s2 := frozen_of_row _ _ 2 _ _ hZ
        have r3 := cell_of_row _ _ 3 _ _ _ hZ
        have s3 := frozen_of_row _ _ 3 _ _ hZ
        have r4 := cell_of_row _ _ 4 _ _ _ hZ
        have s4 := frozen_of_row _ _ 4 _ _ hZ
        have r5 := cell_of_row _ _ 5 _ _ _ hZ
        have s5 := frozen_of_row _ _ 5 _ _ hZ
        have r6 := cell_of_row _ _ 6 _ _ _ hZ
        have s6 := frozen_of_row _ _ 6 _ _ hZ
        have r7 := cell_of_row _ _ 7 _ _ _ hZ
        have s7 := frozen_of_row _ _ 7 _ _ hZ
        simp at r0 r1 r2 r3 r4 r5 r6 r7
        have Y4_15 : Hid (((((((((v3.setCell ⟨v1.heap.size, 0, none⟩ (.int .i64 x.i)).setCell ⟨v1.heap.size, 1, none⟩ (.int .i64 x.z)).setCell ⟨v1.heap.size, 2, none⟩ (.int .i64 x.s)).setCell ⟨v1.heap.size, 3, none⟩ (.slice x.oa x.A.length x.ca)).setCell ⟨v1.heap.size, 4, none⟩ (.int .i64 x.v)).setCell ⟨v1.heap.size, 5, none⟩ (.slice x.od x.D.length x.cd)).setCell ⟨v1.heap.size, 6, none⟩ (.int .i64 x.l)).setCell ⟨v1.heap.size, 7, none⟩ (.int .i64 x.u)).heap[v1.heap.size]? = some (.cells #[.int .i64 x.i, .int .i64 x.z, .int .i64 x.s, .slice x.oa x.A.length x.ca, .int .i64 x.v, .slice x.od x.D.length x.cd, .int .i64 x.l, .int .i64 x.u] 49)) := hide (heap_setCell_same _ (v1.heap.size) 7 _ _ (.int .i64 x.u) (heap_setCell_same _ (v1.heap.size) 6 _ _ (.int .i64 x.l) (heap_setCell_same _ (v1.heap.size) 5 _ _ (.slice x.od x.D.length x.cd) (heap_setCell_same _ (v1.heap.size) 4 _ _ (.int .i64 x.v) (heap_setCell_same _ (v1.heap.size) 3 _ _ (.slice x.oa x.A.length x.ca) (heap_setCell_same _ (v1.heap.size) 2 _ _ (.int .i64 x.s) (heap_setCell_same _ (v1.heap.size) 1 _ _ (.int .i64 x.z) (heap_setCell_same _ (v1.heap.size) 0 _ _ (.int .i64 x.i) hZ))))))))
        have Y4_16 := hide (heap_setO (heap_setO (heap_setO (heap_setO (heap_setO (heap_setO (heap_setO (heap_setO Z3_16.out (p := ⟨v1.heap.size, 0, none⟩) (by simp; omega) (.int .i64 x.i)) (p := ⟨v1.heap.size, 1, none⟩) (by simp; omega) (.int .i64 x.z)) (p := ⟨v1.heap.size, 2, none⟩) (by simp; omega) (.int .i64 x.s)) (p := ⟨v1.heap.size, 3, none⟩) (by simp; omega) (.slice x.oa x.A.length x.ca)) (p := ⟨v1.heap.size, 4, none⟩) (by simp; omega) (.int .i64 x.v)) (p := ⟨v1.heap.size, 5, none⟩) (by simp; omega) (.slice x.od x.D.length x.cd)) (p := ⟨v1.heap.size, 6, none⟩) (by simp; omega) (.int .i64 x.l)) (p := ⟨v1.heap.size, 7, none⟩) (by simp; omega) (.int .i64 x.u))
        have HB4 := hide ((((((((HB3.out.setCell (p := ⟨v1.heap.size, 0, none⟩) (by simp; try omega) (.int .i64 x.i)).setCell (p := ⟨v1.heap.size, 1, none⟩) (by simp; try omega) (.int .i64 x.z)).setCell (p := ⟨v1.heap.size, 2, none⟩) (by simp; try omega) (.int .i64 x.s)).setCell (p := ⟨v1.heap.size, 3, none⟩) (by simp; try omega) (.slice x.oa x.A.length x.ca)).setCell (p := ⟨v1.heap.size, 4, none⟩) (by simp; try omega) (.int .i64 x.v)).setCell (p := ⟨v1.heap.size, 5, none⟩) (by simp; try omega) (.slice x.od x.D.length x.cd)).setCell (p := ⟨v1.heap.size, 6, none⟩) (by simp; try omega) (.int .i64 x.l)).setCell (p := ⟨v1.heap.size, 7, none⟩) (by simp; try omega) (.int .i64 x.u))
        have N4 := hide ((((((((N3.out.setO (p := ⟨v1.heap.size, 0, none⟩) O2_15.out (.int .i64 x.i)).setO (p := ⟨v1.heap.size, 1, none⟩) O2_15.out (.int .i64 x.z)).setO (p := ⟨v1.heap.size, 2, none⟩) O2_15.out (.int .i64 x.s)).setO (p := ⟨v1.heap.size, 3, none⟩) O2_15.out (.slice x.oa x.A.length x.ca)).setO (p := ⟨v1.heap.size, 4, none⟩) O2_15.out (.int .i64 x.v)).setO (p := ⟨v1.heap.size, 5, none⟩) O2_15.out (.slice x.od x.D.length x.cd)).setO (p := ⟨v1.heap.size, 6, none⟩) O2_15.out (.int .i64 x.l)).setO (p := ⟨v1.heap.size, 7, none⟩) O2_15.out (.int .i64 x.u))
        refine one_readyH (i := 17) (by kernel_rfl) rfl rfl (fun K hK => ?_)
        go_simp
        refine hK _ _ ⟨HKd.out.below HB4.out, HTd.out.on HB4.out⟩ ?_
        clear hK K hZ r0 s0 r1 s1 r2 s2 r3 s3 r4 s4 r5 s5 r6 s6 r7 s7 HB3 N3 Z3_15 Z3_16
        generalize ((((((((v3.setCell ⟨v1.heap.size, 0, none⟩ (.int .i64 x.i)).setCell ⟨v1.heap.size, 1, none⟩ (.int .i64 x.z)).setCell ⟨v1.heap.size, 2, none⟩ (.int .i64 x.s)).setCell ⟨v1.heap.size, 3, none⟩ (.slice x.oa x.A.length x.ca)).setCell ⟨v1.heap.size, 4, none⟩ (.int .i64 x.v)).setCell ⟨v1.heap.size, 5, none⟩ (.slice x.od x.D.length x.cd)).setCell ⟨v1.heap.size, 6, none⟩ (.int .i64 x.l)).setCell ⟨v1.heap.size, 7, none⟩ (.int .i64 x.u)) = z4 at *
        have hZ := Y4_16.out
        have r0 := cell_of_row _ _ 0 _ _ _ hZ
        have s0 := frozen_of_row _ _ 0 _ _ hZ
        have r1 := cell_of_row _ _ 1 _ _ _ hZ
        have s1 := frozen_of_row _ _ 1 _ _ hZ
        have r2 := cell_of_row _ _ 2 _ _ _ hZ
        have s2 := frozen_of_row _ _ 2 _ _ hZ
        have r3 := cell_of_row _ _ 3 _ _ _ hZ
        have s3 := frozen_of_row _ _ 3 _ _ hZ
        have r4 := cell_of_row _ _ 4 _ _ _ hZ
        have s4 := frozen_of_row _ _ 4 _ _ hZ
        simp at r0 r1 r2 r3 r4
        have Y5_16 : Hid ((((((z4.setCell ⟨v2.heap.size, 0, none⟩ (.int .i64 p.a)).setCell ⟨v2.heap.size, 1, none⟩ (.int .i64 p.g)).setCell ⟨v2.heap.size, 2, none⟩ (.int .i64 p.s)).setCell ⟨v2.heap.size, 3, none⟩ (.int .i64 p.m)).setCell ⟨v2.heap.size, 4, none⟩ (.int .i64 p.z)).heap[v2.heap.size]? = some (.cells #[.int .i64 p.a, .int .i64 p.g, .int .i64 p.s, .int .i64 p.m, .int .i64 p.z] 58)) := hide (heap_setCell_same _ (v2.heap.size) 4 _ _ (.int .i64 p.z) (heap_setCell_same _ (v2.heap.size) 3 _ _ (.int .i64 p.m) (heap_setCell_same _ (v2.heap.size) 2 _ _ (.int .i64 p.s) (heap_setCell_same _ (v2.heap.size) 1 _ _ (.int .i64 p.g) (heap_setCell_same _ (v2.heap.size) 0 _ _ (.int .i64 p.a) hZ)))))
        have Y5_15 := hide (heap_setO (heap_setO (heap_setO (heap_setO (heap_setO Y4_15.out (p := ⟨v2.heap.size, 0, none⟩) (by simp; omega) (.int .i64 p.a)) (p := ⟨v2.heap.size, 1, none⟩) (by simp; omega) (.int .i64 p.g)) (p := ⟨v2.heap.size, 2, none⟩) (by simp; omega) (.int .i64 p.s)) (p := ⟨v2.heap.size, 3, none⟩) (by simp; omega) (.int .i64 p.m)) (p := ⟨v2.heap.size, 4, none⟩) (by simp; omega) (.int .i64 p.z))
        have HB5 := hide (((((HB4.out.setCell (p := ⟨v2.heap.size, 0, none⟩) (by simp; try omega) (.int .i64 p.a)).setCell (p := ⟨v2.heap.size, 1, none⟩) (by simp; try omega) (.int .i64 p.g)).setCell (p := ⟨v2.heap.size, 2, none⟩) (by simp; try omega) (.int .i64 p.s)).setCell (p := ⟨v2.heap.size, 3, none⟩) (by simp; try omega) (.int .i64 p.m)).setCell (p := ⟨v2.heap.size, 4, none⟩) (by simp; try omega) (.int .i64 p.z))
        have N5 := hide (((((N4.out.setO (p := ⟨v2.heap.size, 0, none⟩) O3_16.out (.int .i64 p.a)).setO (p := ⟨v2.heap.size, 1, none⟩) O3_16.out (.int .i64 p.g)).setO (p := ⟨v2.heap.size, 2, none⟩) O3_16.out (.int .i64 p.s)).setO (p := ⟨v2.heap.size, 3, none⟩) O3_16.out (.int .i64 p.m)).setO (p := ⟨v2.heap.size, 4, none⟩) O3_16.out (.int .i64 p.z))
        refine one_readyH (i := 18) (by kernel_rfl) rfl rfl (fun K hK => ?_)
        go_simp
        refine hK _ _ ⟨HKd.out.below HB5.out, HTd.out.on HB5.out⟩ ?_
        clear hK K hZ r0 s0 r1 s1 r2 s2 r3 s3 r4 s4 HB4 N4 Y4_15 Y4_16
        generalize (((((z4.setCell ⟨v2.heap.size, 0, none⟩ (.int .i64 p.a)).setCell ⟨v2.heap.size, 1, none⟩ (.int .i64 p.g)).setCell ⟨v2.heap.size, 2, none⟩ (.int .i64 p.s)).setCell ⟨v2.heap.size, 3, none⟩ (.int .i64 p.m)).setCell ⟨v2.heap.size, 4, none⟩ (.int .i64 p.z)) = z5 at *
        refine one_readyH (i := 19) (by kernel_rfl) rfl rfl (fun K hK => ?_)
        go_simp
        refine hK _ _ ⟨HKd.out.below HB5.out, HTd.out.on HB5.out⟩ ?_
        clear hK K
        refine wpAnyH_done (by kernel_rfl) ?_ _
        go_wp2_with fail
        go_meet
        case rel => exact ⟨v1.heap.size, v2.heap.size, x, p, rfl, rfl, rfl, hide ⟨by omega, Y5_15.out⟩, hide (N5.out.mono (by omega)), HX, hide (HAd.out.trans (HB5.out.mono (by omega)))⟩
      · go_simp
        have hba := (Below.refl v1.heap.size v1).alloc (Nat.le_refl _) (.cells #[.int .i64 0, .int .i64 0, .int .i64 0, .int .i64 0, .int .i64 0] 58)
        have HB6 := hide (HB1.out.trans (hba.mono HB1.out.size))
        have Z6_16 : Hid ((v1.alloc (.cells #[.int .i64 0, .int .i64 0, .int .i64 0, .int .i64 0, .int .i64 0] 58)).heap[v1.heap.size]? = some (.cells #[.int .i64 0, .int .i64 0, .int .i64 0, .int .i64 0, .int .i64 0] 58)) := hide (heap_alloc_new v1 _)
        have q6 : v1.heap.size < (v1.alloc (.cells #[.int .i64 0, .int .i64 0, .int .i64 0, .int .i64 0, .int .i64 0] 58)).heap.size := by simp
        have O6_16 := hide (HN.out.offlt)
        have N6 := hide (HN.out.below hba)
        refine hK _ _ ⟨HKd.out.below HB6.out, HTd.out.on HB6.out⟩ ?_
        clear hK K hba HB1  HN
        generalize v1.alloc (.cells #[.int .i64 0, .int .i64 0, .int .i64 0, .int .i64 0, .int .i64 0] 58) = v6 at *
        refine one_readyH (i := 15) (by kernel_rfl) rfl rfl (fun K hK => ?_)
        go_simp
        have hba := (Below.refl v6.heap.size v6).alloc (Nat.le_refl _) (.cells #[.int .i64 0, .int .i64 0, .int .i64 0, .slice none 0 0, .int .i64 0, .slice none 0 0, .int .i64 0, .int .i64 0] 49)
        have HB7 := hide (HB6.out.trans (hba.mono HB6.out.size))
        have Z7_16 := hide (at_below Z6_16.out hba)
        have Z7_15 : Hid ((v6.alloc (.cells #[.int .i64 0, .int .i64 0, .int .i64 0, .slice none 0 0, .int .i64 0, .slice none 0 0, .int .i64 0, .int .i64 0] 49)).heap[v6.heap.size]? = some (.cells #[.int .i64 0, .int .i64 0, .int .i64 0, .slice none 0 0, .int .i64 0, .slice none 0 0, .int .i64 0, .int .i64 0] 49)) := hide (heap_alloc_new v6 _)
        have q7 : v6.heap.size < (v6.alloc (.cells #[.int .i64 0, .int .i64 0, .int .i64 0, .slice none 0 0, .int .i64 0, .slice none 0 0, .int .i64 0, .int .i64 0] 49)).heap.size := by simp
        have O7_15 := hide (N6.out.offlt)
        have N7 := hide (N6.out.below hba)
        refine hK _ _ ⟨HKd.out.below HB7.out, HTd.out.on HB7.out⟩ ?_
        clear hK K hba HB6 Z6_16 N6
        generalize v6.alloc (.cells #[.int .i64 0, .int .i64 0, .int .i64 0, .slice none 0 0, .int .i64 0, .slice none 0 0, .int .i64 0, .int .i64 0] 49) = v7 at *
        have hZ := Z7_15.out
        have r0 := cell_of_row _ _ 0 _ _ _ hZ
        have s0 := frozen_of_row _ _ 0 _ _ hZ
        have r1 := cell_of_row _ _ 1 _ _ _ hZ
        have s1 := frozen_of_row _ _ 1 _ _ hZ
        have r2 := cell_of_row _ _ 2 _ _ _ hZ
        have s2 := frozen_of_row _ _ 2 _ _ hZ
        have r3 := cell_of_row _ _ 3 _ _ _ hZ
        have s3 := frozen_of_row _ _ 3 _ _ hZ
        have r4 := cell_of_row _ _ 4 _ _ _ hZ
        have s4 := frozen_of_row _ _ 4 _ _ hZ
        have r5 := cell_of_row _ _ 5 _ _ _ hZ
        have s5 := frozen_of_row _ _ 5 _ _ hZ
        have r6 := cell_of_row _ _ 6 _ _ _ hZ
        have s6 := frozen_of_row _ _ 6 _ _ hZ
        have r7 := cell_of_row _ _ 7 _ _ _ hZ
        have s7 := frozen_of_row _ _ 7 _ _ hZ
        simp at r0 r1 r2 r3 r4 r5 r6 r7
        have Y8_15 : Hid (((((((((v7.setCell ⟨v6.heap.size, 0, none⟩ (.int .i64 x.i)).setCell ⟨v6.heap.size, 1, none⟩ (.int .i64 x.z)).setCell ⟨v6.heap.size, 2, none⟩ (.int .i64 x.s)).setCell ⟨v6.heap.size, 3, none⟩ (.slice x.oa x.A.length x.ca)).setCell ⟨v6.heap.size, 4, none⟩ (.int .i64 x.v)).setCell ⟨v6.heap.size, 5, none⟩ (.slice x.od x.D.length x.cd)).setCell ⟨v6.heap.size, 6, none⟩ (.int .i64 x.l)).setCell ⟨v6.heap.size, 7, none⟩ (.int .i64 x.u)).heap[v6.heap.size]? = some (.cells #[.int .i64 x.i, .int .i64 x.z, .int .i64 x.s, .slice x.oa x.A.length x.ca, .int .i64 x.v, .slice x.od x.D.length x.cd, .int .i64 x.l, .int .i64 x.u] 49)) := hide (heap_setCell_same _ (v6.heap.size) 7 _ _ (.int .i64 x.u) (heap_setCell_same _ (v6.heap.size) 6 _ _ (.int .i64 x.l) (heap_setCell_same _ (v6.heap.size) 5 _ _ (.slice x.od x.D.length x.cd) (heap_setCell_same _ (v6.heap.size) 4 _ _ (.int .i64 x.v) (heap_setCell_same _ (v6.heap.size) 3 _ _ (.slice x.oa x.A.length x.ca) (heap_setCell_same _ (v6.heap.size) 2 _ _ (.int .i64 x.s) (heap_setCell_same _ (v6.heap.size) 1 _ _ (.int .i64 x.z) (heap_setCell_same _ (v6.heap.size) 0 _ _ (.int .i64 x.i) hZ))))))))
        have Y8_16 := hide (heap_setO (heap_setO (heap_setO (heap_setO (heap_setO (heap_setO (heap_setO (heap_setO Z7_16.out (p := ⟨v6.heap.size, 0, none⟩) (by simp; omega) (.int .i64 x.i)) (p := ⟨v6.heap.size, 1, none⟩) (by simp; omega) (.int .i64 x.z)) (p := ⟨v6.heap.size, 2, none⟩) (by simp; omega) (.int .i64 x.s)) (p := ⟨v6.heap.size, 3, none⟩) (by simp; omega) (.slice x.oa x.A.length x.ca)) (p := ⟨v6.heap.size, 4, none⟩) (by simp; omega) (.int .i64 x.v)) (p := ⟨v6.heap.size, 5, none⟩) (by simp; omega) (.slice x.od x.D.length x.cd)) (p := ⟨v6.heap.size, 6, none⟩) (by simp; omega) (.int .i64 x.l)) (p := ⟨v6.heap.size, 7, none⟩) (by simp; omega) (.int .i64 x.u))
        have HB8 := hide ((((((((HB7.out.setCell (p := ⟨v6.heap.size, 0, none⟩) (by simp; try omega) (.int .i64 x.i)).setCell (p := ⟨v6.heap.size, 1, none⟩) (by simp; try omega) (.int .i64 x.z)).setCell (p := ⟨v6.heap.size, 2, none⟩) (by simp; try omega) (.int .i64 x.s)).setCell (p := ⟨v6.heap.size, 3, none⟩) (by simp; try omega) (.slice x.oa x.A.length x.ca)).setCell (p := ⟨v6.heap.size, 4, none⟩) (by simp; try omega) (.int .i64 x.v)).setCell (p := ⟨v6.heap.size, 5, none⟩) (by simp; try omega) (.slice x.od x.D.length x.cd)).setCell (p := ⟨v6.heap.size, 6, none⟩) (by simp; try omega) (.int .i64 x.l)).setCell (p := ⟨v6.heap.size, 7, none⟩) (by simp; try omega) (.int .i64 x.u))
        have N8 := hide ((((((((N7.out.setO (p := ⟨v6.heap.size, 0, none⟩) O7_15.out (.int .i64 x.i)).setO (p := ⟨v6.heap.size, 1, none⟩) O7_15.out (.int .i64 x.z)).setO (p := ⟨v6.heap.size, 2, none⟩) O7_15.out (.int .i64 x.s)).setO (p := ⟨v6.heap.size, 3, none⟩) O7_15.out (.slice x.oa x.A.length x.ca)).setO (p := ⟨v6.heap.size, 4, none⟩) O7_15.out (.int .i64 x.v)).setO (p := ⟨v6.heap.size, 5, none⟩) O7_15.out (.slice x.od x.D.length x.cd)).setO (p := ⟨v6.heap.size, 6, none⟩) O7_15.out (.int .i64 x.l)).setO (p := ⟨v6.heap.size, 7, none⟩) O7_15.out (.int .i64 x.u))
        refine one_readyH (i := 17) (by kernel_rfl) rfl rfl (fun K hK => ?_)
        go_simp
        refine hK _ _ ⟨HKd.out.below HB8.out, HTd.out.on HB8.out⟩ ?_
        clear hK K hZ r0 s0 r1 s1 r2 s2 r3 s3 r4 s4 r5 s5 r6 s6 r7 s7 HB7 N7 Z7_15 Z7_16
        generalize ((((((((v7.setCell ⟨v6.heap.size, 0, none⟩ (.int .i64 x.i)).setCell ⟨v6.heap.size, 1, none⟩ (.int .i64 x.z)).setCell ⟨v6.heap.size, 2, none⟩ (.int .i64 x.s)).setCell ⟨v6.heap.size, 3, none⟩ (.slice x.oa x.A.length x.ca)).setCell ⟨v6.heap.size, 4, none⟩ (.int .i64 x.v)).setCell ⟨v6.heap.size, 5, none⟩ (.slice x.od x.D.length x.cd)).setCell ⟨v6.heap.size, 6, none⟩ (.int .i64 x.l)).setCell ⟨v6.heap.size, 7, none⟩ (.int .i64 x.u)) = z8 at *
        have hZ := Y8_16.out
        have r0 := cell_of_row _ _ 0 _ _ _ hZ
        have s0 := frozen_of_row _ _ 0 _ _ hZ
        have r1 := cell_of_row _ _ 1 _ _ _ hZ
        have s1 := frozen_of_row _ _ 1 _ _ hZ
        have r2 := cell_of_row _ _ 2 _ _ _ hZ
        have s2 := frozen_of_row _ _ 2 _ _ hZ
        have r3 := cell_of_row _ _ 3 _ _ _ hZ
        have s3 := frozen_of_row _ _ 3 _ _ hZ
        have r4 := cell_of_row _ _ 4 _ _ _ hZ
        have s4 := frozen_of_row _ _ 4 _ _ hZ
        simp at r0 r1 r2 r3 r4
        have Y9_16 : Hid ((((((z8.setCell ⟨v1.heap.size, 0, none⟩ (.int .i64 p.a)).setCell ⟨v1.heap.size, 1, none⟩ (.int .i64 p.g)).setCell ⟨v1.heap.size, 2, none⟩ (.int .i64 p.s)).setCell ⟨v1.heap.size, 3, none⟩ (.int .i64 p.m)).setCell ⟨v1.heap.size, 4, none⟩ (.int .i64 p.z)).heap[v1.heap.size]? = some (.cells #[.int .i64 p.a, .int .i64 p.g, .int .i64 p.s, .int .i64 p.m, .int .i64 p.z] 58)) := hide (heap_setCell_same _ (v1.heap.size) 4 _ _ (.int .i64 p.z) (heap_setCell_same _ (v1.heap.size) 3 _ _ (.int .i64 p.m) (heap_setCell_same _ (v1.heap.size) 2 _ _ (.int .i64 p.s) (heap_setCell_same _ (v1.heap.size) 1 _ _ (.int .i64 p.g) (heap_setCell_same _ (v1.heap.size) 0 _ _ (.int .i64 p.a) hZ)))))
        have Y9_15 := hide (heap_setO (heap_setO (heap_setO (heap_setO (heap_setO Y8_15.out (p := ⟨v1.heap.size, 0, none⟩) (by simp; omega) (.int .i64 p.a)) (p := ⟨v1.heap.size, 1, none⟩) (by simp; omega) (.int .i64 p.g)) (p := ⟨v1.heap.size, 2, none⟩) (by simp; omega) (.int .i64 p.s)) (p := ⟨v1.heap.size, 3, none⟩) (by simp; omega) (.int .i64 p.m)) (p := ⟨v1.heap.size, 4, none⟩) (by simp; omega) (.int .i64 p.z))
        have HB9 := hide (((((HB8.out.setCell (p := ⟨v1.heap.size, 0, none⟩) (by simp; try omega) (.int .i64 p.a)).setCell (p := ⟨v1.heap.size, 1, none⟩) (by simp; try omega) (.int .i64 p.g)).setCell (p := ⟨v1.heap.size, 2, none⟩) (by simp; try omega) (.int .i64 p.s)).setCell (p := ⟨v1.heap.size, 3, none⟩) (by simp; try omega) (.int .i64 p.m)).setCell (p := ⟨v1.heap.size, 4, none⟩) (by simp; try omega) (.int .i64 p.z))
        have N9 := hide (((((N8.out.setO (p := ⟨v1.heap.size, 0, none⟩) O6_16.out (.int .i64 p.a)).setO (p := ⟨v1.heap.size, 1, none⟩) O6_16.out (.int .i64 p.g)).setO (p := ⟨v1.heap.size, 2, none⟩) O6_16.out (.int .i64 p.s)).setO (p := ⟨v1.heap.size, 3, none⟩) O6_16.out (.int .i64 p.m)).setO (p := ⟨v1.heap.size, 4, none⟩) O6_16.out (.int .i64 p.z))
        refine one_readyH (i := 18) (by kernel_rfl) rfl rfl (fun K hK => ?_)
        go_simp
        refine hK _ _ ⟨HKd.out.below HB9.out, HTd.out.on HB9.out⟩ ?_
        clear hK K hZ r0 s0 r1 s1 r2 s2 r3 s3 r4 s4 HB8 N8 Y8_15 Y8_16
        generalize (((((z8.setCell ⟨v1.heap.size, 0, none⟩ (.int .i64 p.a)).setCell ⟨v1.heap.size, 1, none⟩ (.int .i64 p.g)).setCell ⟨v1.heap.size, 2, none⟩ (.int .i64 p.s)).setCell ⟨v1.heap.size, 3, none⟩ (.int .i64 p.m)).setCell ⟨v1.heap.size, 4, none⟩ (.int .i64 p.z)) = z9 at *
        refine one_readyH (i := 19) (by kernel_rfl) rfl rfl (fun K hK => ?_)
        go_simp
        refine hK _ _ ⟨HKd.out.below HB9.out, HTd.out.on HB9.out⟩ ?_
        clear hK K
        refine wpAnyH_done (by kernel_rfl) ?_ _
        go_wp2_with fail
        go_meet
        case rel => exact ⟨v6.heap.size, v1.heap.size, x, p, rfl, rfl, rfl, hide ⟨by omega, Y9_15.out⟩, hide (N9.out.mono (by omega)), HX, hide (HAd.out.trans (HB9.out.mono (by omega)))⟩
    · go_simp
      have hba := (Below.refl w0.heap.size w0).alloc (Nat.le_refl _) (.cells #[.int .i64 0, .int .i64 0, .int .i64 0, .slice none 0 0, .int .i64 0, .slice none 0 0, .int .i64 0, .int .i64 0] 49)
      have HB10 := hide (hba)
      have Z10_15 : Hid ((w0.alloc (.cells #[.int .i64 0, .int .i64 0, .int .i64 0, .slice none 0 0, .int .i64 0, .slice none 0 0, .int .i64 0, .int .i64 0] 49)).heap[w0.heap.size]? = some (.cells #[.int .i64 0, .int .i64 0, .int .i64 0, .slice none 0 0, .int .i64 0, .slice none 0 0, .int .i64 0, .int .i64 0] 49)) := hide (heap_alloc_new w0 _)
      have q10 : w0.heap.size < (w0.alloc (.cells #[.int .i64 0, .int .i64 0, .int .i64 0, .slice none 0 0, .int .i64 0, .slice none 0 0, .int .i64 0, .int .i64 0] 49)).heap.size := by simp
      refine hK _ _ ⟨HKd.out.below HB10.out, HTd.out.on HB10.out⟩ ?_
      clear hK K hba   
      generalize w0.alloc (.cells #[.int .i64 0, .int .i64 0, .int .i64 0, .slice none 0 0, .int .i64 0, .slice none 0 0, .int .i64 0, .int .i64 0] 49) = v10 at *
      refine two_readyH (i := 10) (j := 16) (by kernel_rfl) rfl rfl rfl rfl (fun K hK => ?_) (fun K hK => ?_)
      · go_simp
        refine (HTap.out _ (HKd.out.below HB10.out)).mono ?_
        rintro e v11 ⟨⟨x, p, rfl, hN, hX⟩, hb⟩
        have HN := hide hN
        have HX := hide hX
        clear hN hX
        have HB11 := hide (HB10.out.trans (hb.mono HB10.out.size))
        have Z11_15 := hide (at_below Z10_15.out hb)
        have O11_15 := hide (HN.out.offnew (show w0.heap.size < v10.heap.size by omega))
        have q11_15 : w0.heap.size < v11.heap.size := Nat.lt_of_lt_of_le (by omega) hb.size
        have u11 : w0.heap.size ≤ v11.heap.size := HB11.out.size
        refine hK _ _ ⟨HKd.out.below HB11.out, HTd.out.on HB11.out⟩ ?_
        clear hK K hb HB10 Z10_15
        refine takesH (fuel := 4) (by kernel_rfl) (fun c d v a w h => by cases d <;> exact h) ⟨HKd.out.below HB11.out, HTd.out.on HB11.out⟩ [11, 12, 13, 14] _ _ (by kernel_rfl) ?_
        refine wpPureH_step (.tuple #[gtV x.i x.z x.s x.oa x.A.length x.ca x.v x.od x.D.length x.cd x.l x.u, tp p.a p.g p.s p.m p.z, .int .i64 E]) rfl rfl (fun w' _ => by go_simp) ?_
        refine wpPureH_step (gtV x.i x.z x.s x.oa x.A.length x.ca x.v x.od x.D.length x.cd x.l x.u) rfl rfl (fun w' _ => by go_simp) ?_
        refine wpPureH_step (tp p.a p.g p.s p.m p.z) rfl rfl (fun w' _ => by go_simp) ?_
        refine wpPureH_step (.int .i64 E) rfl rfl (fun w' _ => by go_simp) ?_
        refine wpPureH_nil ?_
        refine one_readyH (i := 16) (by kernel_rfl) rfl rfl (fun K hK => ?_)
        go_simp
        have hba := (Below.refl v11.heap.size v11).alloc (Nat.le_refl _) (.cells #[.int .i64 0, .int .i64 0, .int .i64 0, .int .i64 0, .int .i64 0] 58)
        have HB12 := hide (HB11.out.trans (hba.mono HB11.out.size))
        have Z12_15 := hide (at_below Z11_15.out hba)
        have Z12_16 : Hid ((v11.alloc (.cells #[.int .i64 0, .int .i64 0, .int .i64 0, .int .i64 0, .int .i64 0] 58)).heap[v11.heap.size]? = some (.cells #[.int .i64 0, .int .i64 0, .int .i64 0, .int .i64 0, .int .i64 0] 58)) := hide (heap_alloc_new v11 _)
        have q12 : v11.heap.size < (v11.alloc (.cells #[.int .i64 0, .int .i64 0, .int .i64 0, .int .i64 0, .int .i64 0] 58)).heap.size := by simp
        have O12_16 := hide (HN.out.offlt)
        have N12 := hide (HN.out.below hba)
        refine hK _ _ ⟨HKd.out.below HB12.out, HTd.out.on HB12.out⟩ ?_
        clear hK K hba HB11 Z11_15 HN
        generalize v11.alloc (.cells #[.int .i64 0, .int .i64 0, .int .i64 0, .int .i64 0, .int .i64 0] 58) = v12 at *
        have hZ := Z12_15.out
        have r0 := cell_of_row _ _ 0 _ _ _ hZ
        have s0 := frozen_of_row _ _ 0 _ _ hZ
        have r1 := cell_of_row _ _ 1 _ _ _ hZ
        have s1 := frozen_of_row _ _ 1 _ _ hZ
        have r2 := cell_of_row _ _ 2 _ _ _ hZ
        have s2 := frozen_of_row _ _ 2 _ _ hZ
        have r3 := cell_of_row _ _ 3 _ _ _ hZ
        have s3 := frozen_of_row _ _ 3 _ _ hZ
        have r4 := cell_of_row _ _ 4 _ _ _ hZ
        have s4 := frozen_of_row _ _ 4 _ _ hZ
        have r5 := cell_of_row _ _ 5 _ _ _ hZ
        have s5 := frozen_of_row _ _ 5 _ _ hZ
        have r6 := cell_of_row _ _ 6 _ _ _ hZ
        have s6 := frozen_of_row _ _ 6 _ _ hZ
        have r7 := cell_of_row _ _ 7 _ _ _ hZ
        have s7 := frozen_of_row _ _ 7 _ _ hZ
        simp at r0 r1 r2 r3 r4 r5 r6 r7
        have Y13_15 : Hid (((((((((v12.setCell ⟨w0.heap.size, 0, none⟩ (.int .i64 x.i)).setCell ⟨w0.heap.size, 1, none⟩ (.int .i64 x.z)).setCell ⟨w0.heap.size, 2, none⟩ (.int .i64 x.s)).setCell ⟨w0.heap.size, 3, none⟩ (.slice x.oa x.A.length x.ca)).setCell ⟨w0.heap.size, 4, none⟩ (.int .i64 x.v)).setCell ⟨w0.heap.size, 5, none⟩ (.slice x.od x.D.length x.cd)).setCell ⟨w0.heap.size, 6, none⟩ (.int .i64 x.l)).setCell ⟨w0.heap.size, 7, none⟩ (.int .i64 x.u)).heap[w0.heap.size]? = some (.cells #[.int .i64 x.i, .int .i64 x.z, .int .i64 x.s, .slice x.oa x.A.length x.ca, .int .i64 x.v, .slice x.od x.D.length x.cd, .int .i64 x.l, .int .i64 x.u] 49)) := hide (heap_setCell_same _ (w0.heap.size) 7 _ _ (.int .i64 x.u) (heap_setCell_same _ (w0.heap.size) 6 _ _ (.int .i64 x.l) (heap_setCell_same _ (w0.heap.size) 5 _ _ (.slice x.od x.D.length x.cd) (heap_setCell_same _ (w0.heap.size) 4 _ _ (.int .i64 x.v) (heap_setCell_same _ (w0.heap.size) 3 _ _ (.slice x.oa x.A.length x.ca) (heap_setCell_same _ (w0.heap.size) 2 _ _ (.int .i64 x.s) (heap_setCell_same _ (w0.heap.size) 1 _ _ (.int .i64 x.z) (heap_setCell_same _ (w0.heap.size) 0 _ _ (.int .i64 x.i) hZ))))))))
        have Y13_16 := hide (heap_setO (heap_setO (heap_setO (heap_setO (heap_setO (heap_setO (heap_setO (heap_setO Z12_16.out (p := ⟨w0.heap.size, 0, none⟩) (by simp; omega) (.int .i64 x.i)) (p := ⟨w0.heap.size, 1, none⟩) (by simp; omega) (.int .i64 x.z)) (p := ⟨w0.heap.size, 2, none⟩) (by simp; omega) (.int .i64 x.s)) (p := ⟨w0.heap.size, 3, none⟩) (by simp; omega) (.slice x.oa x.A.length x.ca)) (p := ⟨w0.heap.size, 4, none⟩) (by simp; omega) (.int .i64 x.v)) (p := ⟨w0.heap.size, 5, none⟩) (by simp; omega) (.slice x.od x.D.length x.cd)) (p := ⟨w0.heap.size, 6, none⟩) (by simp; omega) (.int .i64 x.l)) (p := ⟨w0.heap.size, 7, none⟩) (by simp; omega) (.int .i64 x.u))
        have HB13 := hide ((((((((HB12.out.setCell (p := ⟨w0.heap.size, 0, none⟩) (by simp; try omega) (.int .i64 x.i)).setCell (p := ⟨w0.heap.size, 1, none⟩) (by simp; try omega) (.int .i64 x.z)).setCell (p := ⟨w0.heap.size, 2, none⟩) (by simp; try omega) (.int .i64 x.s)).setCell (p := ⟨w0.heap.size, 3, none⟩) (by simp; try omega) (.slice x.oa x.A.length x.ca)).setCell (p := ⟨w0.heap.size, 4, none⟩) (by simp; try omega) (.int .i64 x.v)).setCell (p := ⟨w0.heap.size, 5, none⟩) (by simp; try omega) (.slice x.od x.D.length x.cd)).setCell (p := ⟨w0.heap.size, 6, none⟩) (by simp; try omega) (.int .i64 x.l)).setCell (p := ⟨w0.heap.size, 7, none⟩) (by simp; try omega) (.int .i64 x.u))
        have N13 := hide ((((((((N12.out.setO (p := ⟨w0.heap.size, 0, none⟩) O11_15.out (.int .i64 x.i)).setO (p := ⟨w0.heap.size, 1, none⟩) O11_15.out (.int .i64 x.z)).setO (p := ⟨w0.heap.size, 2, none⟩) O11_15.out (.int .i64 x.s)).setO (p := ⟨w0.heap.size, 3, none⟩) O11_15.out (.slice x.oa x.A.length x.ca)).setO (p := ⟨w0.heap.size, 4, none⟩) O11_15.out (.int .i64 x.v)).setO (p := ⟨w0.heap.size, 5, none⟩) O11_15.out (.slice x.od x.D.length x.cd)).setO (p := ⟨w0.heap.size, 6, none⟩) O11_15.out (.int .i64 x.l)).setO (p := ⟨w0.heap.size, 7, none⟩) O11_15.out (.int .i64 x.u))
        refine one_readyH (i := 17) (by kernel_rfl) rfl rfl (fun K hK => ?_)
        go_simp
        refine hK _ _ ⟨HKd.out.below HB13.out, HTd.out.on HB13.out⟩ ?_
        clear hK K hZ r0 s0 r1 s1 r2 s2 r3 s3 r4 s4 r5 s5 r6 s6 r7 s7 HB12 N12 Z12_15 Z12_16
        generalize ((((((((v12.setCell ⟨w0.heap.size, 0, none⟩ (.int .i64 x.i)).setCell ⟨w0.heap.size, 1, none⟩ (.int .i64 x.z)).setCell ⟨w0.heap.size, 2, none⟩ (.int .i64 x.s)).setCell ⟨w0.heap.size, 3, none⟩ (.slice x.oa x.A.length x.ca)).setCell ⟨w0.heap.size, 4, none⟩ (.int .i64 x.v)).setCell ⟨w0.heap.size, 5, none⟩ (.slice x.od x.D.length x.cd)).setCell ⟨w0.heap.size, 6, none⟩ (.int .i64 x.l)).setCell ⟨w0.heap.size, 7, none⟩ (.int .i64 x.u)) = z13 at *
        have hZ := Y13_16.out
        have r0 := cell_of_row _ _ 0 _ _ _ hZ
        have s0 := frozen_of_row _ _ 0 _ _ hZ
        have r1 := cell_of_row _ _ 1 _ _ _ hZ
        have s1 := frozen_of_row _ _ 1 _ _ hZ
        have r2 := cell_of_row _ _ 2 _ _ _ hZ
        have s2 := frozen_of_row _ _ 2 _ _ hZ
        have r3 := cell_of_row _ _ 3 _ _ _ hZ
        have s3 := frozen_of_row _ _ 3 _ _ hZ
        have r4 := cell_of_row _ _ 4 _ _ _ hZ
        have s4 := frozen_of_row _ _ 4 _ _ hZ
        simp at r0 r1 r2 r3 r4
        have Y14_16 : Hid ((((((z13.setCell ⟨v11.heap.size, 0, none⟩ (.int .i64 p.a)).setCell ⟨v11.heap.size, 1, none⟩ (.int .i64 p.g)).setCell ⟨v11.heap.size, 2, none⟩ (.int .i64 p.s)).setCell ⟨v11.heap.size, 3, none⟩ (.int .i64 p.m)).setCell ⟨v11.heap.size, 4, none⟩ (.int .i64 p.z)).heap[v11.heap.size]? = some (.cells #[.int .i64 p.a, .int .i64 p.g, .int .i64 p.s, .int .i64 p.m, .int .i64 p.z] 58)) := hide (heap_setCell_same _ (v11.heap.size) 4 _ _ (.int .i64 p.z) (heap_setCell_same _ (v11.heap.size) 3 _ _ (.int .i64 p.m) (heap_setCell_same _ (v11.heap.size) 2 _ _ (.int .i64 p.s) (heap_setCell_same _ (v11.heap.size) 1 _ _ (.int .i64 p.g) (heap_setCell_same _ (v11.heap.size) 0 _ _ (.int .i64 p.a) hZ)))))
        have Y14_15 := hide (heap_setO (heap_setO (heap_setO (heap_setO (heap_setO Y13_15.out (p := ⟨v11.heap.size, 0, none⟩) (by simp; omega) (.int .i64 p.a)) (p := ⟨v11.heap.size, 1, none⟩) (by simp; omega) (.int .i64 p.g)) (p := ⟨v11.heap.size, 2, none⟩) (by simp; omega) (.int .i64 p.s)) (p := ⟨v11.heap.size, 3, none⟩) (by simp; omega) (.int .i64 p.m)) (p := ⟨v11.heap.size, 4, none⟩) (by simp; omega) (.int .i64 p.z))
        have HB14 := hide (((((HB13.out.setCell (p := ⟨v11.heap.size, 0, none⟩) (by simp; try omega) (.int .i64 p.a)).setCell (p := ⟨v11.heap.size, 1, none⟩) (by simp; try omega) (.int .i64 p.g)).setCell (p := ⟨v11.heap.size, 2, none⟩) (by simp; try omega) (.int .i64 p.s)).setCell (p := ⟨v11.heap.size, 3, none⟩) (by simp; try omega) (.int .i64 p.m)).setCell (p := ⟨v11.heap.size, 4, none⟩) (by simp; try omega) (.int .i64 p.z))
        have N14 := hide (((((N13.out.setO (p := ⟨v11.heap.size, 0, none⟩) O12_16.out (.int .i64 p.a)).setO (p := ⟨v11.heap.size, 1, none⟩) O12_16.out (.int .i64 p.g)).setO (p := ⟨v11.heap.size, 2, none⟩) O12_16.out (.int .i64 p.s)).setO (p := ⟨v11.heap.size, 3, none⟩) O12_16.out (.int .i64 p.m)).setO (p := ⟨v11.heap.size, 4, none⟩) O12_16.out (.int .i64 p.z))
        refine one_readyH (i := 18) (by kernel_rfl) rfl rfl (fun K hK => ?_)
        go_simp
        refine hK _ _ ⟨HKd.out.below HB14.out, HTd.out.on HB14.out⟩ ?_
        clear hK K hZ r0 s0 r1 s1 r2 s2 r3 s3 r4 s4 HB13 N13 Y13_15 Y13_16
        generalize (((((z13.setCell ⟨v11.heap.size, 0, none⟩ (.int .i64 p.a)).setCell ⟨v11.heap.size, 1, none⟩ (.int .i64 p.g)).setCell ⟨v11.heap.size, 2, none⟩ (.int .i64 p.s)).setCell ⟨v11.heap.size, 3, none⟩ (.int .i64 p.m)).setCell ⟨v11.heap.size, 4, none⟩ (.int .i64 p.z)) = z14 at *
        refine one_readyH (i := 19) (by kernel_rfl) rfl rfl (fun K hK => ?_)
        go_simp
        refine hK _ _ ⟨HKd.out.below HB14.out, HTd.out.on HB14.out⟩ ?_
        clear hK K
        refine wpAnyH_done (by kernel_rfl) ?_ _
        go_wp2_with fail
        go_meet
        case rel => exact ⟨w0.heap.size, v11.heap.size, x, p, rfl, rfl, rfl, hide ⟨by omega, Y14_15.out⟩, hide (N14.out.mono (by omega)), HX, hide (HAd.out.trans (HB14.out.mono (by omega)))⟩
      · go_simp
        have hba := (Below.refl v10.heap.size v10).alloc (Nat.le_refl _) (.cells #[.int .i64 0, .int .i64 0, .int .i64 0, .int .i64 0, .int .i64 0] 58)
        have HB15 := hide (HB10.out.trans (hba.mono HB10.out.size))
        have Z15_15 := hide (at_below Z10_15.out hba)
        have Z15_16 : Hid ((v10.alloc (.cells #[.int .i64 0, .int .i64 0, .int .i64 0, .int .i64 0, .int .i64 0] 58)).heap[v10.heap.size]? = some (.cells #[.int .i64 0, .int .i64 0, .int .i64 0, .int .i64 0, .int .i64 0] 58)) := hide (heap_alloc_new v10 _)
        have q15 : v10.heap.size < (v10.alloc (.cells #[.int .i64 0, .int .i64 0, .int .i64 0, .int .i64 0, .int .i64 0] 58)).heap.size := by simp
        refine hK _ _ ⟨HKd.out.below HB15.out, HTd.out.on HB15.out⟩ ?_
        clear hK K hba HB10 Z10_15 
        generalize v10.alloc (.cells #[.int .i64 0, .int .i64 0, .int .i64 0, .int .i64 0, .int .i64 0] 58) = v15 at *
        refine one_readyH (i := 10) (by kernel_rfl) rfl rfl (fun K hK => ?_)
        go_simp
        refine (HTap.out _ (HKd.out.below HB15.out)).mono ?_
        rintro e v16 ⟨⟨x, p, rfl, hN, hX⟩, hb⟩
        have HN := hide hN
        have HX := hide hX
        clear hN hX
        have HB16 := hide (HB15.out.trans (hb.mono HB15.out.size))
        have Z16_15 := hide (at_below Z15_15.out hb)
        have O16_15 := hide (HN.out.offnew (show w0.heap.size < v15.heap.size by omega))
        have q16_15 : w0.heap.size < v16.heap.size := Nat.lt_of_lt_of_le (by omega) hb.size
        have Z16_16 := hide (at_below Z15_16.out hb)
        have O16_16 := hide (HN.out.offnew (show v10.heap.size < v15.heap.size by omega))
        have q16_16 : v10.heap.size < v16.heap.size := Nat.lt_of_lt_of_le (by omega) hb.size
        have u16 : w0.heap.size ≤ v16.heap.size := HB16.out.size
        refine hK _ _ ⟨HKd.out.below HB16.out, HTd.out.on HB16.out⟩ ?_
        clear hK K hb HB15 Z15_15 Z15_16
        refine takesH (fuel := 3) (by kernel_rfl) (fun c d v a w h => by cases d <;> exact h) ⟨HKd.out.below HB16.out, HTd.out.on HB16.out⟩ [11, 12, 13, 14] _ _ (by kernel_rfl) ?_
        refine wpPureH_step (.tuple #[gtV x.i x.z x.s x.oa x.A.length x.ca x.v x.od x.D.length x.cd x.l x.u, tp p.a p.g p.s p.m p.z, .int .i64 E]) rfl rfl (fun w' _ => by go_simp) ?_
        refine wpPureH_step (gtV x.i x.z x.s x.oa x.A.length x.ca x.v x.od x.D.length x.cd x.l x.u) rfl rfl (fun w' _ => by go_simp) ?_
        refine wpPureH_step (tp p.a p.g p.s p.m p.z) rfl rfl (fun w' _ => by go_simp) ?_
        refine wpPureH_step (.int .i64 E) rfl rfl (fun w' _ => by go_simp) ?_
        refine wpPureH_nil ?_
        have hZ := Z16_15.out
        have r0 := cell_of_row _ _ 0 _ _ _ hZ
        have s0 := frozen_of_row _ _ 0 _ _ hZ
        have r1 := cell_of_row _ _ 1 _ _ _ hZ
        have s1 := frozen_of_row _ _ 1 _ _ hZ
        have r2 := cell_of_row _ _ 2 _ _ _ hZ
        have s2 := frozen_of_row _ _ 2 _ _ hZ
        have r3 := cell_of_row _ _ 3 _ _ _ hZ
        have s3 := frozen_of_row _ _ 3 _ _ hZ
        have r4 := cell_of_row _ _ 4 _ _ _ hZ
        have s4 := frozen_of_row _ _ 4 _ _ hZ
        have r5 := cell_of_row _ _ 5 _ _ _ hZ
        have s5 := frozen_of_row _ _ 5 _ _ hZ
        have r6 := cell_of_row _ _ 6 _ _ _ hZ
        have s6 := frozen_of_row _ _ 6 _ _ hZ
        have r7 := cell_of_row _ _ 7 _ _ _ hZ
        have s7 := frozen_of_row _ _ 7 _ _ hZ
        simp at r0 r1 r2 r3 r4 r5 r6 r7
        have Y17_15 : Hid (((((((((v16.setCell ⟨w0.heap.size, 0, none⟩ (.int .i64 x.i)).setCell ⟨w0.heap.size, 1, none⟩ (.int .i64 x.z)).setCell ⟨w0.heap.size, 2, none⟩ (.int .i64 x.s)).setCell ⟨w0.heap.size, 3, none⟩ (.slice x.oa x.A.length x.ca)).setCell ⟨w0.heap.size, 4, none⟩ (.int .i64 x.v)).setCell ⟨w0.heap.size, 5, none⟩ (.slice x.od x.D.length x.cd)).setCell ⟨w0.heap.size, 6, none⟩ (.int .i64 x.l)).setCell ⟨w0.heap.size, 7, none⟩ (.int .i64 x.u)).heap[w0.heap.size]? = some (.cells #[.int .i64 x.i, .int .i64 x.z, .int .i64 x.s, .slice x.oa x.A.length x.ca, .int .i64 x.v, .slice x.od x.D.length x.cd, .int .i64 x.l, .int .i64 x.u] 49)) := hide (heap_setCell_same _ (w0.heap.size) 7 _ _ (.int .i64 x.u) (heap_setCell_same _ (w0.heap.size) 6 _ _ (.int .i64 x.l) (heap_setCell_same _ (w0.heap.size) 5 _ _ (.slice x.od x.D.length x.cd) (heap_setCell_same _ (w0.heap.size) 4 _ _ (.int .i64 x.v) (heap_setCell_same _ (w0.heap.size) 3 _ _ (.slice x.oa x.A.length x.ca) (heap_setCell_same _ (w0.heap.size) 2 _ _ (.int .i64 x.s) (heap_setCell_same _ (w0.heap.size) 1 _ _ (.int .i64 x.z) (heap_setCell_same _ (w0.heap.size) 0 _ _ (.int .i64 x.i) hZ))))))))
        have Y17_16 := hide (heap_setO (heap_setO (heap_setO (heap_setO (heap_setO (heap_setO (heap_setO (heap_setO Z16_16.out (p := ⟨w0.heap.size, 0, none⟩) (by simp; omega) (.int .i64 x.i)) (p := ⟨w0.heap.size, 1, none⟩) (by simp; omega) (.int .i64 x.z)) (p := ⟨w0.heap.size, 2, none⟩) (by simp; omega) (.int .i64 x.s)) (p := ⟨w0.heap.size, 3, none⟩) (by simp; omega) (.slice x.oa x.A.length x.ca)) (p := ⟨w0.heap.size, 4, none⟩) (by simp; omega) (.int .i64 x.v)) (p := ⟨w0.heap.size, 5, none⟩) (by simp; omega) (.slice x.od x.D.length x.cd)) (p := ⟨w0.heap.size, 6, none⟩) (by simp; omega) (.int .i64 x.l)) (p := ⟨w0.heap.size, 7, none⟩) (by simp; omega) (.int .i64 x.u))
        have HB17 := hide ((((((((HB16.out.setCell (p := ⟨w0.heap.size, 0, none⟩) (by simp; try omega) (.int .i64 x.i)).setCell (p := ⟨w0.heap.size, 1, none⟩) (by simp; try omega) (.int .i64 x.z)).setCell (p := ⟨w0.heap.size, 2, none⟩) (by simp; try omega) (.int .i64 x.s)).setCell (p := ⟨w0.heap.size, 3, none⟩) (by simp; try omega) (.slice x.oa x.A.length x.ca)).setCell (p := ⟨w0.heap.size, 4, none⟩) (by simp; try omega) (.int .i64 x.v)).setCell (p := ⟨w0.heap.size, 5, none⟩) (by simp; try omega) (.slice x.od x.D.length x.cd)).setCell (p := ⟨w0.heap.size, 6, none⟩) (by simp; try omega) (.int .i64 x.l)).setCell (p := ⟨w0.heap.size, 7, none⟩) (by simp; try omega) (.int .i64 x.u))
        have N17 := hide ((((((((HN.out.setO (p := ⟨w0.heap.size, 0, none⟩) O16_15.out (.int .i64 x.i)).setO (p := ⟨w0.heap.size, 1, none⟩) O16_15.out (.int .i64 x.z)).setO (p := ⟨w0.heap.size, 2, none⟩) O16_15.out (.int .i64 x.s)).setO (p := ⟨w0.heap.size, 3, none⟩) O16_15.out (.slice x.oa x.A.length x.ca)).setO (p := ⟨w0.heap.size, 4, none⟩) O16_15.out (.int .i64 x.v)).setO (p := ⟨w0.heap.size, 5, none⟩) O16_15.out (.slice x.od x.D.length x.cd)).setO (p := ⟨w0.heap.size, 6, none⟩) O16_15.out (.int .i64 x.l)).setO (p := ⟨w0.heap.size, 7, none⟩) O16_15.out (.int .i64 x.u))
        refine one_readyH (i := 17) (by kernel_rfl) rfl rfl (fun K hK => ?_)
        go_simp
        refine hK _ _ ⟨HKd.out.below HB17.out, HTd.out.on HB17.out⟩ ?_
        clear hK K hZ r0 s0 r1 s1 r2 s2 r3 s3 r4 s4 r5 s5 r6 s6 r7 s7 HB16 HN Z16_15 Z16_16
        generalize ((((((((v16.setCell ⟨w0.heap.size, 0, none⟩ (.int .i64 x.i)).setCell ⟨w0.heap.size, 1, none⟩ (.int .i64 x.z)).setCell ⟨w0.heap.size, 2, none⟩ (.int .i64 x.s)).setCell ⟨w0.heap.size, 3, none⟩ (.slice x.oa x.A.length x.ca)).setCell ⟨w0.heap.size, 4, none⟩ (.int .i64 x.v)).setCell ⟨w0.heap.size, 5, none⟩ (.slice x.od x.D.length x.cd)).setCell ⟨w0.heap.size, 6, none⟩ (.int .i64 x.l)).setCell ⟨w0.heap.size, 7, none⟩ (.int .i64 x.u)) = z17 at *
        have hZ := Y17_16.out
        have r0 := cell_of_row _ _ 0 _ _ _ hZ
        have s0 := frozen_of_row _ _ 0 _ _ hZ
        have r1 := cell_of_row _ _ 1 _ _ _ hZ
        have s1 := frozen_of_row _ _ 1 _ _ hZ
        have r2 := cell_of_row _ _ 2 _ _ _ hZ
        have s2 := frozen_of_row _ _ 2 _ _ hZ
        have r3 := cell_of_row _ _ 3 _ _ _ hZ
        have s3 := frozen_of_row _ _ 3 _ _ hZ
        have r4 := cell_of_row _ _ 4 _ _ _ hZ
        have s4 := frozen_of_row _ _ 4 _ _ hZ
        simp at r0 r1 r2 r3 r4
        have Y18_16 : Hid ((((((z17.setCell ⟨v10.heap.size, 0, none⟩ (.int .i64 p.a)).setCell ⟨v10.heap.size, 1, none⟩ (.int .i64 p.g)).setCell ⟨v10.heap.size, 2, none⟩ (.int .i64 p.s)).setCell ⟨v10.heap.size, 3, none⟩ (.int .i64 p.m)).setCell ⟨v10.heap.size, 4, none⟩ (.int .i64 p.z)).heap[v10.heap.size]? = some (.cells #[.int .i64 p.a, .int .i64 p.g, .int .i64 p.s, .int .i64 p.m, .int .i64 p.z] 58)) := hide (heap_setCell_same _ (v10.heap.size) 4 _ _ (.int .i64 p.z) (heap_setCell_same _ (v10.heap.size) 3 _ _ (.int .i64 p.m) (heap_setCell_same _ (v10.heap.size) 2 _ _ (.int .i64 p.s) (heap_setCell_same _ (v10.heap.size) 1 _ _ (.int .i64 p.g) (heap_setCell_same _ (v10.heap.size) 0 _ _ (.int .i64 p.a) hZ)))))
        have Y18_15 := hide (heap_setO (heap_setO (heap_setO (heap_setO (heap_setO Y17_15.out (p := ⟨v10.heap.size, 0, none⟩) (by simp; omega) (.int .i64 p.a)) (p := ⟨v10.heap.size, 1, none⟩) (by simp; omega) (.int .i64 p.g)) (p := ⟨v10.heap.size, 2, none⟩) (by simp; omega) (.int .i64 p.s)) (p := ⟨v10.heap.size, 3, none⟩) (by simp; omega) (.int .i64 p.m)) (p := ⟨v10.heap.size, 4, none⟩) (by simp; omega) (.int .i64 p.z))
        have HB18 := hide (((((HB17.out.setCell (p := ⟨v10.heap.size, 0, none⟩) (by simp; try omega) (.int .i64 p.a)).setCell (p := ⟨v10.heap.size, 1, none⟩) (by simp; try omega) (.int .i64 p.g)).setCell (p := ⟨v10.heap.size, 2, none⟩) (by simp; try omega) (.int .i64 p.s)).setCell (p := ⟨v10.heap.size, 3, none⟩) (by simp; try omega) (.int .i64 p.m)).setCell (p := ⟨v10.heap.size, 4, none⟩) (by simp; try omega) (.int .i64 p.z))
        have N18 := hide (((((N17.out.setO (p := ⟨v10.heap.size, 0, none⟩) O16_16.out (.int .i64 p.a)).setO (p := ⟨v10.heap.size, 1, none⟩) O16_16.out (.int .i64 p.g)).setO (p := ⟨v10.heap.size, 2, none⟩) O16_16.out (.int .i64 p.s)).setO (p := ⟨v10.heap.size, 3, none⟩) O16_16.out (.int .i64 p.m)).setO (p := ⟨v10.heap.size, 4, none⟩) O16_16.out (.int .i64 p.z))
        refine one_readyH (i := 18) (by kernel_rfl) rfl rfl (fun K hK => ?_)
        go_simp
        refine hK _ _ ⟨HKd.out.below HB18.out, HTd.out.on HB18.out⟩ ?_
        clear hK K hZ r0 s0 r1 s1 r2 s2 r3 s3 r4 s4 HB17 N17 Y17_15 Y17_16
        generalize (((((z17.setCell ⟨v10.heap.size, 0, none⟩ (.int .i64 p.a)).setCell ⟨v10.heap.size, 1, none⟩ (.int .i64 p.g)).setCell ⟨v10.heap.size, 2, none⟩ (.int .i64 p.s)).setCell ⟨v10.heap.size, 3, none⟩ (.int .i64 p.m)).setCell ⟨v10.heap.size, 4, none⟩ (.int .i64 p.z)) = z18 at *
        refine one_readyH (i := 19) (by kernel_rfl) rfl rfl (fun K hK => ?_)
        go_simp
        refine hK _ _ ⟨HKd.out.below HB18.out, HTd.out.on HB18.out⟩ ?_
        clear hK K
        refine wpAnyH_done (by kernel_rfl) ?_ _
        go_wp2_with fail
        go_meet
        case rel => exact ⟨w0.heap.size, v10.heap.size, x, p, rfl, rfl, rfl, hide ⟨by omega, Y18_15.out⟩, hide (N18.out.mono (by omega)), HX, hide (HAd.out.trans (HB18.out.mono (by omega)))⟩
    · go_simp
      have hba := (Below.refl w0.heap.size w0).alloc (Nat.le_refl _) (.cells #[.int .i64 0, .int .i64 0, .int .i64 0, .int .i64 0, .int .i64 0] 58)
      have HB19 := hide (hba)
      have Z19_16 : Hid ((w0.alloc (.cells #[.int .i64 0, .int .i64 0, .int .i64 0, .int .i64 0, .int .i64 0] 58)).heap[w0.heap.size]? = some (.cells #[.int .i64 0, .int .i64 0, .int .i64 0, .int .i64 0, .int .i64 0] 58)) := hide (heap_alloc_new w0 _)
      have q19 : w0.heap.size < (w0.alloc (.cells #[.int .i64 0, .int .i64 0, .int .i64 0, .int .i64 0, .int .i64 0] 58)).heap.size := by simp
      refine hK _ _ ⟨HKd.out.below HB19.out, HTd.out.on HB19.out⟩ ?_
      clear hK K hba   
      generalize w0.alloc (.cells #[.int .i64 0, .int .i64 0, .int .i64 0, .int .i64 0, .int .i64 0] 58) = v19 at *
      refine two_readyH (i := 10) (j := 15) (by kernel_rfl) rfl rfl rfl rfl (fun K hK => ?_) (fun K hK => ?_)
      · go_simp
        refine (HTap.out _ (HKd.out.below HB19.out)).mono ?_
        rintro e v20 ⟨⟨x, p, rfl, hN, hX⟩, hb⟩
        have HN := hide hN
        have HX := hide hX
        clear hN hX
        have HB20 := hide (HB19.out.trans (hb.mono HB19.out.size))
        have Z20_16 := hide (at_below Z19_16.out hb)
        have O20_16 := hide (HN.out.offnew (show w0.heap.size < v19.heap.size by omega))
        have q20_16 : w0.heap.size < v20.heap.size := Nat.lt_of_lt_of_le (by omega) hb.size
        have u20 : w0.heap.size ≤ v20.heap.size := HB20.out.size
        refine hK _ _ ⟨HKd.out.below HB20.out, HTd.out.on HB20.out⟩ ?_
        clear hK K hb HB19 Z19_16
        refine takesH (fuel := 4) (by kernel_rfl) (fun c d v a w h => by cases d <;> exact h) ⟨HKd.out.below HB20.out, HTd.out.on HB20.out⟩ [11, 12, 13, 14] _ _ (by kernel_rfl) ?_
        refine wpPureH_step (.tuple #[gtV x.i x.z x.s x.oa x.A.length x.ca x.v x.od x.D.length x.cd x.l x.u, tp p.a p.g p.s p.m p.z, .int .i64 E]) rfl rfl (fun w' _ => by go_simp) ?_
        refine wpPureH_step (gtV x.i x.z x.s x.oa x.A.length x.ca x.v x.od x.D.length x.cd x.l x.u) rfl rfl (fun w' _ => by go_simp) ?_
        refine wpPureH_step (tp p.a p.g p.s p.m p.z) rfl rfl (fun w' _ => by go_simp) ?_
        refine wpPureH_step (.int .i64 E) rfl rfl (fun w' _ => by go_simp) ?_
        refine wpPureH_nil ?_
        refine one_readyH (i := 15) (by kernel_rfl) rfl rfl (fun K hK => ?_)
        go_simp
        have hba := (Below.refl v20.heap.size v20).alloc (Nat.le_refl _) (.cells #[.int .i64 0, .int .i64 0, .int .i64 0, .slice none 0 0, .int .i64 0, .slice none 0 0, .int .i64 0, .int .i64 0] 49)
        have HB21 := hide (HB20.out.trans (hba.mono HB20.out.size))
        have Z21_16 := hide (at_below Z20_16.out hba)
        have Z21_15 : Hid ((v20.alloc (.cells #[.int .i64 0, .int .i64 0, .int .i64 0, .slice none 0 0, .int .i64 0, .slice none 0 0, .int .i64 0, .int .i64 0] 49)).heap[v20.heap.size]? = some (.cells #[.int .i64 0, .int .i64 0, .int .i64 0, .slice none 0 0, .int .i64 0, .slice none 0 0, .int .i64 0, .int .i64 0] 49)) := hide (heap_alloc_new v20 _)
        have q21 : v20.heap.size < (v20.alloc (.cells #[.int .i64 0, .int .i64 0, .int .i64 0, .slice none 0 0, .int .i64 0, .slice none 0 0, .int .i64 0, .int .i64 0] 49)).heap.size := by simp
        have O21_15 := hide (HN.out.offlt)
        have N21 := hide (HN.out.below hba)
        refine hK _ _ ⟨HKd.out.below HB21.out, HTd.out.on HB21.out⟩ ?_
        clear hK K hba HB20 Z20_16 HN
        generalize v20.alloc (.cells #[.int .i64 0, .int .i64 0, .int .i64 0, .slice none 0 0, .int .i64 0, .slice none 0 0, .int .i64 0, .int .i64 0] 49) = v21 at *
        have hZ := Z21_15.out
        have r0 := cell_of_row _ _ 0 _ _ _ hZ
        have s0 := frozen_of_row _ _ 0 _ _ hZ
        have r1 := cell_of_row _ _ 1 _ _ _ hZ
        have s1 := frozen_of_row _ _ 1 _ _ hZ
        have r2 := cell_of_row _ _ 2 _ _ _ hZ
        have s2 := frozen_of_row _ _ 2 _ _ hZ
        have r3 := cell_of_row _ _ 3 _ _ _ hZ
        have s3 := frozen_of_row _ _ 3 _ _ hZ
        have r4 := cell_of_row _ _ 4 _ _ _ hZ
        have s4 := frozen_of_row _ _ 4 _ _ hZ
        have r5 := cell_of_row _ _ 5 _ _ _ hZ
        have s5 := frozen_of_row _ _ 5 _ _ hZ
        have r6 := cell_of_row _ _ 6 _ _ _ hZ
        have s6 := frozen_of_row _ _ 6 _ _ hZ
        have r7 := cell_of_row _ _ 7 _ _ _ hZ
        have s7 := frozen_of_row _ _ 7 _ _ hZ
        simp at r0 r1 r2 r3 r4 r5 r6 r7
        have Y22_15 : Hid (((((((((v21.setCell ⟨v20.heap.size, 0, none⟩ (.int .i64 x.i)).setCell ⟨v20.heap.size, 1, none⟩ (.int .i64 x.z)).setCell ⟨v20.heap.size, 2, none⟩ (.int .i64 x.s)).setCell ⟨v20.heap.size, 3, none⟩ (.slice x.oa x.A.length x.ca)).setCell ⟨v20.heap.size, 4, none⟩ (.int .i64 x.v)).setCell ⟨v20.heap.size, 5, none⟩ (.slice x.od x.D.length x.cd)).setCell ⟨v20.heap.size, 6, none⟩ (.int .i64 x.l)).setCell ⟨v20.heap.size, 7, none⟩ (.int .i64 x.u)).heap[v20.heap.size]? = some (.cells #[.int .i64 x.i, .int .i64 x.z, .int .i64 x.s, .slice x.oa x.A.length x.ca, .int .i64 x.v, .slice x.od x.D.length x.cd, .int .i64 x.l, .int .i64 x.u] 49)) := hide (heap_setCell_same _ (v20.heap.size) 7 _ _ (.int .i64 x.u) (heap_setCell_same _ (v20.heap.size) 6 _ _ (.int .i64 x.l) (heap_setCell_same _ (v20.heap.size) 5 _ _ (.slice x.od x.D.length x.cd) (heap_setCell_same _ (v20.heap.size) 4 _ _ (.int .i64 x.v) (heap_setCell_same _ (v20.heap.size) 3 _ _ (.slice x.oa x.A.length x.ca) (heap_setCell_same _ (v20.heap.size) 2 _ _ (.int .i64 x.s) (heap_setCell_same _ (v20.heap.size) 1 _ _ (.int .i64 x.z) (heap_setCell_same _ (v20.heap.size) 0 _ _ (.int .i64 x.i) hZ))))))))
        have Y22_16 := hide (heap_setO (heap_setO (heap_setO (heap_setO (heap_setO (heap_setO (heap_setO (heap_setO Z21_16.out (p := ⟨v20.heap.size, 0, none⟩) (by simp; omega) (.int .i64 x.i)) (p := ⟨v20.heap.size, 1, none⟩) (by simp; omega) (.int .i64 x.z)) (p := ⟨v20.heap.size, 2, none⟩) (by simp; omega) (.int .i64 x.s)) (p := ⟨v20.heap.size, 3, none⟩) (by simp; omega) (.slice x.oa x.A.length x.ca)) (p := ⟨v20.heap.size, 4, none⟩) (by simp; omega) (.int .i64 x.v)) (p := ⟨v20.heap.size, 5, none⟩) (by simp; omega) (.slice x.od x.D.length x.cd)) (p := ⟨v20.heap.size, 6, none⟩) (by simp; omega) (.int .i64 x.l)) (p := ⟨v20.heap.size, 7, none⟩) (by simp; omega) (.int .i64 x.u))
        have HB22 := hide ((((((((HB21.out.setCell (p := ⟨v20.heap.size, 0, none⟩) (by simp; try omega) (.int .i64 x.i)).setCell (p := ⟨v20.heap.size, 1, none⟩) (by simp; try omega) (.int .i64 x.z)).setCell (p := ⟨v20.heap.size, 2, none⟩) (by simp; try omega) (.int .i64 x.s)).setCell (p := ⟨v20.heap.size, 3, none⟩) (by simp; try omega) (.slice x.oa x.A.length x.ca)).setCell (p := ⟨v20.heap.size, 4, none⟩) (by simp; try omega) (.int .i64 x.v)).setCell (p := ⟨v20.heap.size, 5, none⟩) (by simp; try omega) (.slice x.od x.D.length x.cd)).setCell (p := ⟨v20.heap.size, 6, none⟩) (by simp; try omega) (.int .i64 x.l)).setCell (p := ⟨v20.heap.size, 7, none⟩) (by simp; try omega) (.int .i64 x.u))
        have N22 := hide ((((((((N21.out.setO (p := ⟨v20.heap.size, 0, none⟩) O21_15.out (.int .i64 x.i)).setO (p := ⟨v20.heap.size, 1, none⟩) O21_15.out (.int .i64 x.z)).setO (p := ⟨v20.heap.size, 2, none⟩) O21_15.out (.int .i64 x.s)).setO (p := ⟨v20.heap.size, 3, none⟩) O21_15.out (.slice x.oa x.A.length x.ca)).setO (p := ⟨v20.heap.size, 4, none⟩) O21_15.out (.int .i64 x.v)).setO (p := ⟨v20.heap.size, 5, none⟩) O21_15.out (.slice x.od x.D.length x.cd)).setO (p := ⟨v20.heap.size, 6, none⟩) O21_15.out (.int .i64 x.l)).setO (p := ⟨v20.heap.size, 7, none⟩) O21_15.out (.int .i64 x.u))
        refine one_readyH (i := 17) (by kernel_rfl) rfl rfl (fun K hK => ?_)
        go_simp
        refine hK _ _ ⟨HKd.out.below HB22.out, HTd.out.on HB22.out⟩ ?_
        clear hK K hZ r0 s0 r1 s1 r2 s2 r3 s3 r4 s4 r5 s5 r6 s6 r7 s7 HB21 N21 Z21_15 Z21_16
        generalize ((((((((v21.setCell ⟨v20.heap.size, 0, none⟩ (.int .i64 x.i)).setCell ⟨v20.heap.size, 1, none⟩ (.int .i64 x.z)).setCell ⟨v20.heap.size, 2, none⟩ (.int .i64 x.s)).setCell ⟨v20.heap.size, 3, none⟩ (.slice x.oa x.A.length x.ca)).setCell ⟨v20.heap.size, 4, none⟩ (.int .i64 x.v)).setCell ⟨v20.heap.size, 5, none⟩ (.slice x.od x.D.length x.cd)).setCell ⟨v20.heap.size, 6, none⟩ (.int .i64 x.l)).setCell ⟨v20.heap.size, 7, none⟩ (.int .i64 x.u)) = z22 at *
        have hZ := Y22_16.out
        have r0 := cell_of_row _ _ 0 _ _ _ hZ
        have s0 := frozen_of_row _ _ 0 _ _ hZ
        have r1 := cell_of_row _ _ 1 _ _ _ hZ
        have s1 := frozen_of_row _ _ 1 _ _ hZ
        have r2 := cell_of_row _ _ 2 _ _ _ hZ
        have s2 := frozen_of_row _ _ 2 _ _ hZ
        have r3 := cell_of_row _ _ 3 _ _ _ hZ
        have s3 := frozen_of_row _ _ 3 _ _ hZ
        have r4 := cell_of_row _ _ 4 _ _ _ hZ
        have s4 := frozen_of_row _ _ 4 _ _ hZ
        simp at r0 r1 r2 r3 r4
        have Y23_16 : Hid ((((((z22.setCell ⟨w0.heap.size, 0, none⟩ (.int .i64 p.a)).setCell ⟨w0.heap.size, 1, none⟩ (.int .i64 p.g)).setCell ⟨w0.heap.size, 2, none⟩ (.int .i64 p.s)).setCell ⟨w0.heap.size, 3, none⟩ (.int .i64 p.m)).setCell ⟨w0.heap.size, 4, none⟩ (.int .i64 p.z)).heap[w0.heap.size]? = some (.cells #[.int .i64 p.a, .int .i64 p.g, .int .i64 p.s, .int .i64 p.m, .int .i64 p.z] 58)) := hide (heap_setCell_same _ (w0.heap.size) 4 _ _ (.int .i64 p.z) (heap_setCell_same _ (w0.heap.size) 3 _ _ (.int .i64 p.m) (heap_setCell_same _ (w0.heap.size) 2 _ _ (.int .i64 p.s) (heap_setCell_same _ (w0.heap.size) 1 _ _ (.int .i64 p.g) (heap_setCell_same _ (w0.heap.size) 0 _ _ (.int .i64 p.a) hZ)))))
        have Y23_15 := hide (heap_setO (heap_setO (heap_setO (heap_setO (heap_setO Y22_15.out (p := ⟨w0.heap.size, 0, none⟩) (by simp; omega) (.int .i64 p.a)) (p := ⟨w0.heap.size, 1, none⟩) (by simp; omega) (.int .i64 p.g)) (p := ⟨w0.heap.size, 2, none⟩) (by simp; omega) (.int .i64 p.s)) (p := ⟨w0.heap.size, 3, none⟩) (by simp; omega) (.int .i64 p.m)) (p := ⟨w0.heap.size, 4, none⟩) (by simp; omega) (.int .i64 p.z))
        have HB23 := hide (((((HB22.out.setCell (p := ⟨w0.heap.size, 0, none⟩) (by simp; try omega) (.int .i64 p.a)).setCell (p := ⟨w0.heap.size, 1, none⟩) (by simp; try omega) (.int .i64 p.g)).setCell (p := ⟨w0.heap.size, 2, none⟩) (by simp; try omega) (.int .i64 p.s)).setCell (p := ⟨w0.heap.size, 3, none⟩) (by simp; try omega) (.int .i64 p.m)).setCell (p := ⟨w0.heap.size, 4, none⟩) (by simp; try omega) (.int .i64 p.z))
        have N23 := hide (((((N22.out.setO (p := ⟨w0.heap.size, 0, none⟩) O20_16.out (.int .i64 p.a)).setO (p := ⟨w0.heap.size, 1, none⟩) O20_16.out (.int .i64 p.g)).setO (p := ⟨w0.heap.size, 2, none⟩) O20_16.out (.int .i64 p.s)).setO (p := ⟨w0.heap.size, 3, none⟩) O20_16.out (.int .i64 p.m)).setO (p := ⟨w0.heap.size, 4, none⟩) O20_16.out (.int .i64 p.z))
        refine one_readyH (i := 18) (by kernel_rfl) rfl rfl (fun K hK => ?_)
        go_simp
        refine hK _ _ ⟨HKd.out.below HB23.out, HTd.out.on HB23.out⟩ ?_
        clear hK K hZ r0 s0 r1 s1 r2 s2 r3 s3 r4 s4 HB22 N22 Y22_15 Y22_16
        generalize (((((z22.setCell ⟨w0.heap.size, 0, none⟩ (.int .i64 p.a)).setCell ⟨w0.heap.size, 1, none⟩ (.int .i64 p.g)).setCell ⟨w0.heap.size, 2, none⟩ (.int .i64 p.s)).setCell ⟨w0.heap.size, 3, none⟩ (.int .i64 p.m)).setCell ⟨w0.heap.size, 4, none⟩ (.int .i64 p.z)) = z23 at *
        refine one_readyH (i := 19) (by kernel_rfl) rfl rfl (fun K hK => ?_)
        go_simp
        refine hK _ _ ⟨HKd.out.below HB23.out, HTd.out.on HB23.out⟩ ?_
        clear hK K
        refine wpAnyH_done (by kernel_rfl) ?_ _
        go_wp2_with fail
        go_meet
        case rel => exact ⟨v20.heap.size, w0.heap.size, x, p, rfl, rfl, rfl, hide ⟨by omega, Y23_15.out⟩, hide (N23.out.mono (by omega)), HX, hide (HAd.out.trans (HB23.out.mono (by omega)))⟩
      · go_simp
        have hba := (Below.refl v19.heap.size v19).alloc (Nat.le_refl _) (.cells #[.int .i64 0, .int .i64 0, .int .i64 0, .slice none 0 0, .int .i64 0, .slice none 0 0, .int .i64 0, .int .i64 0] 49)
        have HB24 := hide (HB19.out.trans (hba.mono HB19.out.size))
        have Z24_16 := hide (at_below Z19_16.out hba)
        have Z24_15 : Hid ((v19.alloc (.cells #[.int .i64 0, .int .i64 0, .int .i64 0, .slice none 0 0, .int .i64 0, .slice none 0 0, .int .i64 0, .int .i64 0] 49)).heap[v19.heap.size]? = some (.cells #[.int .i64 0, .int .i64 0, .int .i64 0, .slice none 0 0, .int .i64 0, .slice none 0 0, .int .i64 0, .int .i64 0] 49)) := hide (heap_alloc_new v19 _)
        have q24 : v19.heap.size < (v19.alloc (.cells #[.int .i64 0, .int .i64 0, .int .i64 0, .slice none 0 0, .int .i64 0, .slice none 0 0, .int .i64 0, .int .i64 0] 49)).heap.size := by simp
        refine hK _ _ ⟨HKd.out.below HB24.out, HTd.out.on HB24.out⟩ ?_
        clear hK K hba HB19 Z19_16 
        generalize v19.alloc (.cells #[.int .i64 0, .int .i64 0, .int .i64 0, .slice none 0 0, .int .i64 0, .slice none 0 0, .int .i64 0, .int .i64 0] 49) = v24 at *
        refine one_readyH (i := 10) (by kernel_rfl) rfl rfl (fun K hK => ?_)
        go_simp
        refine (HTap.out _ (HKd.out.below HB24.out)).mono ?_
        rintro e v25 ⟨⟨x, p, rfl, hN, hX⟩, hb⟩
        have HN := hide hN
        have HX := hide hX
        clear hN hX
        have HB25 := hide (HB24.out.trans (hb.mono HB24.out.size))
        have Z25_16 := hide (at_below Z24_16.out hb)
        have O25_16 := hide (HN.out.offnew (show w0.heap.size < v24.heap.size by omega))
        have q25_16 : w0.heap.size < v25.heap.size := Nat.lt_of_lt_of_le (by omega) hb.size
        have Z25_15 := hide (at_below Z24_15.out hb)
        have O25_15 := hide (HN.out.offnew (show v19.heap.size < v24.heap.size by omega))
        have q25_15 : v19.heap.size < v25.heap.size := Nat.lt_of_lt_of_le (by omega) hb.size
        have u25 : w0.heap.size ≤ v25.heap.size := HB25.out.size
        refine hK _ _ ⟨HKd.out.below HB25.out, HTd.out.on HB25.out⟩ ?_
        clear hK K hb HB24 Z24_16 Z24_15
        refine takesH (fuel := 3) (by kernel_rfl) (fun c d v a w h => by cases d <;> exact h) ⟨HKd.out.below HB25.out, HTd.out.on HB25.out⟩ [11, 12, 13, 14] _ _ (by kernel_rfl) ?_
        refine wpPureH_step (.tuple #[gtV x.i x.z x.s x.oa x.A.length x.ca x.v x.od x.D.length x.cd x.l x.u, tp p.a p.g p.s p.m p.z, .int .i64 E]) rfl rfl (fun w' _ => by go_simp) ?_
        refine wpPureH_step (gtV x.i x.z x.s x.oa x.A.length x.ca x.v x.od x.D.length x.cd x.l x.u) rfl rfl (fun w' _ => by go_simp) ?_
        refine wpPureH_step (tp p.a p.g p.s p.m p.z) rfl rfl (fun w' _ => by go_simp) ?_
        refine wpPureH_step (.int .i64 E) rfl rfl (fun w' _ => by go_simp) ?_
        refine wpPureH_nil ?_
        have hZ := Z25_15.out
        have r0 := cell_of_row _ _ 0 _ _ _ hZ
        have s0 := frozen_of_row _ _ 0 _ _ hZ
        have r1 := cell_of_row _ _ 1 _ _ _ hZ
        have s1 := frozen_of_row _ _ 1 _ _ hZ
        have r2 := cell_of_row _ _ 2 _ _ _ hZ
        have s2 := frozen_of_row _ _ 2 _ _ hZ
        have r3 := cell_of_row _ _ 3 _ _ _ hZ
        have s3 := frozen_of_row _ _ 3 _ _ hZ
        have r4 := cell_of_row _ _ 4 _ _ _ hZ
        have s4 := frozen_of_row _ _ 4 _ _ hZ
        have r5 := cell_of_row _ _ 5 _ _ _ hZ
        have s5 := frozen_of_row _ _ 5 _ _ hZ
        have r6 := cell_of_row _ _ 6 _ _ _ hZ
        have s6 := frozen_of_row _ _ 6 _ _ hZ
        have r7 := cell_of_row _ _ 7 _ _ _ hZ
        have s7 := frozen_of_row _ _ 7 _ _ hZ
        simp at r0 r1 r2 r3 r4 r5 r6 r7
        have Y26_15 : Hid (((((((((v25.setCell ⟨v19.heap.size, 0, none⟩ (.int .i64 x.i)).setCell ⟨v19.heap.size, 1, none⟩ (.int .i64 x.z)).setCell ⟨v19.heap.size, 2, none⟩ (.int .i64 x.s)).setCell ⟨v19.heap.size, 3, none⟩ (.slice x.oa x.A.length x.ca)).setCell ⟨v19.heap.size, 4, none⟩ (.int .i64 x.v)).setCell ⟨v19.heap.size, 5, none⟩ (.slice x.od x.D.length x.cd)).setCell ⟨v19.heap.size, 6, none⟩ (.int .i64 x.l)).setCell ⟨v19.heap.size, 7, none⟩ (.int .i64 x.u)).heap[v19.heap.size]? = some (.cells #[.int .i64 x.i, .int .i64 x.z, .int .i64 x.s, .slice x.oa x.A.length x.ca, .int .i64 x.v, .slice x.od x.D.length x.cd, .int .i64 x.l, .int .i64 x.u] 49)) := hide (heap_setCell_same _ (v19.heap.size) 7 _ _ (.int .i64 x.u) (heap_setCell_same _ (v19.heap.size) 6 _ _ (.int .i64 x.l) (heap_setCell_same _ (v19.heap.size) 5 _ _ (.slice x.od x.D.length x.cd) (heap_setCell_same _ (v19.heap.size) 4 _ _ (.int .i64 x.v) (heap_setCell_same _ (v19.heap.size) 3 _ _ (.slice x.oa x.A.length x.ca) (heap_setCell_same _ (v19.heap.size) 2 _ _ (.int .i64 x.s) (heap_setCell_same _ (v19.heap.size) 1 _ _ (.int .i64 x.z) (heap_setCell_same _ (v19.heap.size) 0 _ _ (.int .i64 x.i) hZ))))))))
        have Y26_16 := hide (heap_setO (heap_setO (heap_setO (heap_setO (heap_setO (heap_setO (heap_setO (heap_setO Z25_16.out (p := ⟨v19.heap.size, 0, none⟩) (by simp; omega) (.int .i64 x.i)) (p := ⟨v19.heap.size, 1, none⟩) (by simp; omega) (.int .i64 x.z)) (p := ⟨v19.heap.size, 2, none⟩) (by simp; omega) (.int .i64 x.s)) (p := ⟨v19.heap.size, 3, none⟩) (by simp; omega) (.slice x.oa x.A.length x.ca)) (p := ⟨v19.heap.size, 4, none⟩) (by simp; omega) (.int .i64 x.v)) (p := ⟨v19.heap.size, 5, none⟩) (by simp; omega) (.slice x.od x.D.length x.cd)) (p := ⟨v19.heap.size, 6, none⟩) (by simp; omega) (.int .i64 x.l)) (p := ⟨v19.heap.size, 7, none⟩) (by simp; omega) (.int .i64 x.u))
        have HB26 := hide ((((((((HB25.out.setCell (p := ⟨v19.heap.size, 0, none⟩) (by simp; try omega) (.int .i64 x.i)).setCell (p := ⟨v19.heap.size, 1, none⟩) (by simp; try omega) (.int .i64 x.z)).setCell (p := ⟨v19.heap.size, 2, none⟩) (by simp; try omega) (.int .i64 x.s)).setCell (p := ⟨v19.heap.size, 3, none⟩) (by simp; try omega) (.slice x.oa x.A.length x.ca)).setCell (p := ⟨v19.heap.size, 4, none⟩) (by simp; try omega) (.int .i64 x.v)).setCell (p := ⟨v19.heap.size, 5, none⟩) (by simp; try omega) (.slice x.od x.D.length x.cd)).setCell (p := ⟨v19.heap.size, 6, none⟩) (by simp; try omega) (.int .i64 x.l)).setCell (p := ⟨v19.heap.size, 7, none⟩) (by simp; try omega) (.int .i64 x.u))
        have N26 := hide ((((((((HN.out.setO (p := ⟨v19.heap.size, 0, none⟩) O25_15.out (.int .i64 x.i)).setO (p := ⟨v19.heap.size, 1, none⟩) O25_15.out (.int .i64 x.z)).setO (p := ⟨v19.heap.size, 2, none⟩) O25_15.out (.int .i64 x.s)).setO (p := ⟨v19.heap.size, 3, none⟩) O25_15.out (.slice x.oa x.A.length x.ca)).setO (p := ⟨v19.heap.size, 4, none⟩) O25_15.out (.int .i64 x.v)).setO (p := ⟨v19.heap.size, 5, none⟩) O25_15.out (.slice x.od x.D.length x.cd)).setO (p := ⟨v19.heap.size, 6, none⟩) O25_15.out (.int .i64 x.l)).setO (p := ⟨v19.heap.size, 7, none⟩) O25_15.out (.int .i64 x.u))
        refine one_readyH (i := 17) (by kernel_rfl) rfl rfl (fun K hK => ?_)
        go_simp
        refine hK _ _ ⟨HKd.out.below HB26.out, HTd.out.on HB26.out⟩ ?_
        clear hK K hZ r0 s0 r1 s1 r2 s2 r3 s3 r4 s4 r5 s5 r6 s6 r7 s7 HB25 HN Z25_15 Z25_16
        generalize ((((((((v25.setCell ⟨v19.heap.size, 0, none⟩ (.int .i64 x.i)).setCell ⟨v19.heap.size, 1, none⟩ (.int .i64 x.z)).setCell ⟨v19.heap.size, 2, none⟩ (.int .i64 x.s)).setCell ⟨v19.heap.size, 3, none⟩ (.slice x.oa x.A.length x.ca)).setCell ⟨v19.heap.size, 4, none⟩ (.int .i64 x.v)).setCell ⟨v19.heap.size, 5, none⟩ (.slice x.od x.D.length x.cd)).setCell ⟨v19.heap.size, 6, none⟩ (.int .i64 x.l)).setCell ⟨v19.heap.size, 7, none⟩ (.int .i64 x.u)) = z26 at *
        have hZ := Y26_16.out
        have r0 := cell_of_row _ _ 0 _ _ _ hZ
        have s0 := frozen_of_row _ _ 0 _ _ hZ
        have r1 := cell_of_row _ _ 1 _ _ _ hZ
        have s1 := frozen_of_row _ _ 1 _ _ hZ
        have r2 := cell_of_row _ _ 2 _ _ _ hZ
        have s2 := frozen_of_row _ _ 2 _ _ hZ
        have r3 := cell_of_row _ _ 3 _ _ _ hZ
        have s3 := frozen_of_row _ _ 3 _ _ hZ
        have r4 := cell_of_row _ _ 4 _ _ _ hZ
        have s4 := frozen_of_row _ _ 4 _ _ hZ
        simp at r0 r1 r2 r3 r4
        have Y27_16 : Hid ((((((z26.setCell ⟨w0.heap.size, 0, none⟩ (.int .i64 p.a)).setCell ⟨w0.heap.size, 1, none⟩ (.int .i64 p.g)).setCell ⟨w0.heap.size, 2, none⟩ (.int .i64 p.s)).setCell ⟨w0.heap.size, 3, none⟩ (.int .i64 p.m)).setCell ⟨w0.heap.size, 4, none⟩ (.int .i64 p.z)).heap[w0.heap.size]? = some (.cells #[.int .i64 p.a, .int .i64 p.g, .int .i64 p.s, .int .i64 p.m, .int .i64 p.z] 58)) := hide (heap_setCell_same _ (w0.heap.size) 4 _ _ (.int .i64 p.z) (heap_setCell_same _ (w0.heap.size) 3 _ _ (.int .i64 p.m) (heap_setCell_same _ (w0.heap.size) 2 _ _ (.int .i64 p.s) (heap_setCell_same _ (w0.heap.size) 1 _ _ (.int .i64 p.g) (heap_setCell_same _ (w0.heap.size) 0 _ _ (.int .i64 p.a) hZ)))))
        have Y27_15 := hide (heap_setO (heap_setO (heap_setO (heap_setO (heap_setO Y26_15.out (p := ⟨w0.heap.size, 0, none⟩) (by simp; omega) (.int .i64 p.a)) (p := ⟨w0.heap.size, 1, none⟩) (by simp; omega) (.int .i64 p.g)) (p := ⟨w0.heap.size, 2, none⟩) (by simp; omega) (.int .i64 p.s)) (p := ⟨w0.heap.size, 3, none⟩) (by simp; omega) (.int .i64 p.m)) (p := ⟨w0.heap.size, 4, none⟩) (by simp; omega) (.int .i64 p.z))
        have HB27 := hide (((((HB26.out.setCell (p := ⟨w0.heap.size, 0, none⟩) (by simp; try omega) (.int .i64 p.a)).setCell (p := ⟨w0.heap.size, 1, none⟩) (by simp; try omega) (.int .i64 p.g)).setCell (p := ⟨w0.heap.size, 2, none⟩) (by simp; try omega) (.int .i64 p.s)).setCell (p := ⟨w0.heap.size, 3, none⟩) (by simp; try omega) (.int .i64 p.m)).setCell (p := ⟨w0.heap.size, 4, none⟩) (by simp; try omega) (.int .i64 p.z))
        have N27 := hide (((((N26.out.setO (p := ⟨w0.heap.size, 0, none⟩) O25_16.out (.int .i64 p.a)).setO (p := ⟨w0.heap.size, 1, none⟩) O25_16.out (.int .i64 p.g)).setO (p := ⟨w0.heap.size, 2, none⟩) O25_16.out (.int .i64 p.s)).setO (p := ⟨w0.heap.size, 3, none⟩) O25_16.out (.int .i64 p.m)).setO (p := ⟨w0.heap.size, 4, none⟩) O25_16.out (.int .i64 p.z))
        refine one_readyH (i := 18) (by kernel_rfl) rfl rfl (fun K hK => ?_)
        go_simp
        refine hK _ _ ⟨HKd.out.below HB27.out, HTd.out.on HB27.out⟩ ?_
        clear hK K hZ r0 s0 r1 s1 r2 s2 r3 s3 r4 s4 HB26 N26 Y26_15 Y26_16
        generalize (((((z26.setCell ⟨w0.heap.size, 0, none⟩ (.int .i64 p.a)).setCell ⟨w0.heap.size, 1, none⟩ (.int .i64 p.g)).setCell ⟨w0.heap.size, 2, none⟩ (.int .i64 p.s)).setCell ⟨w0.heap.size, 3, none⟩ (.int .i64 p.m)).setCell ⟨w0.heap.size, 4, none⟩ (.int .i64 p.z)) = z27 at *
        refine one_readyH (i := 19) (by kernel_rfl) rfl rfl (fun K hK => ?_)
        go_simp
        refine hK _ _ ⟨HKd.out.below HB27.out, HTd.out.on HB27.out⟩ ?_
        clear hK K
        refine wpAnyH_done (by kernel_rfl) ?_ _
        go_wp2_with fail
        go_meet
        case rel => exact ⟨v19.heap.size, w0.heap.size, x, p, rfl, rfl, rfl, hide ⟨by omega, Y27_15.out⟩, hide (N27.out.mono (by omega)), HX, hide (HAd.out.trans (HB27.out.mono (by omega)))⟩
  case rest =>
    obtain ⟨b9, b10, x, p, rfl, rfl, rfl, HZ, HN, HX, HB⟩ := hcut
    have HK2 := hide (HK0.out.below HB.out)
    clear HK1 HT HTap HK0
    rcases hE : (E != 0) with _ | _
    · obtain rfl : E = 0 := by simpa using hE
      have HX0 := hide (HX.out rfl)
      clear HX
      go_upto_region 4 with fail
      refine wp_region_reads (fun w' => w'.heap[K]? = some (boxK a Q T P V dv D G W 79) ∧ w'.heap[b9]? = some (.cells #[.int .i64 x.i, .int .i64 x.z, .int .i64 x.s, .slice x.oa x.A.length x.ca, .int .i64 x.v, .slice x.od x.D.length x.cd, .int .i64 x.l, .int .i64 x.u] 49)) [0, 1, 2, 3, 4, 5, 6, 7] 1 (by rfl) (by kernel_rfl) (by kernel_rfl) (by kernel_rfl) (fun c d v a w h => by cases d <;> exact h) ?_ ?_
      · exact ⟨at_below HK2.out.box (Below.refl _ _).drew, at_below HZ.out.2 (Below.refl _ _).drew⟩
      refine wpPureH_step (.pointer (some ⟨K, 0, none⟩)) rfl rfl (fun w' hS => ?_) ?_
      · go_simp
      refine wpPureH_step (.pointer (some ⟨K, 0, none⟩)) rfl rfl (fun w' hS => ?_) ?_
      · go_simp
      refine wpPureH_step (.pointer (some ⟨K, 0, none⟩)) rfl rfl (fun w' hS => ?_) ?_
      · go_simp
      refine wpPureH_step (.pointer (some ⟨K, 5, none⟩)) rfl rfl (fun w' hS => ?_) ?_
      · go_simp
      refine wpPureH_step (.slice (some ⟨Q, 0, none⟩) G.length a.cg) rfl rfl (fun w' hS => ?_) ?_
      · have k5 : w'.cell? ⟨K, 5, none⟩ = some (.slice (some ⟨Q, 0, none⟩) G.length a.cg) := by rw [cell_of_row _ _ 5 _ _ _ hS.1]; rfl
        go_simp
      refine wpPureH_step (.int .i64 (q : Int)) rfl rfl (fun w' hS => ?_) ?_
      · go_simp
      refine wpPureH_step (gtV x.i x.z x.s x.oa x.A.length x.ca x.v x.od x.D.length x.cd x.l x.u) rfl rfl (fun w' hS => ?_) ?_
      · have x0 : w'.cell? ⟨b9, 0, none⟩ = some (.int .i64 x.i) := by rw [cell_of_row _ _ 0 _ _ _ hS.2]; rfl
        have x1 : w'.cell? ⟨b9, 1, none⟩ = some (.int .i64 x.z) := by rw [cell_of_row _ _ 1 _ _ _ hS.2]; rfl
        have x2 : w'.cell? ⟨b9, 2, none⟩ = some (.int .i64 x.s) := by rw [cell_of_row _ _ 2 _ _ _ hS.2]; rfl
        have x3 : w'.cell? ⟨b9, 3, none⟩ = some (.slice x.oa x.A.length x.ca) := by rw [cell_of_row _ _ 3 _ _ _ hS.2]; rfl
        have x4 : w'.cell? ⟨b9, 4, none⟩ = some (.int .i64 x.v) := by rw [cell_of_row _ _ 4 _ _ _ hS.2]; rfl
        have x5 : w'.cell? ⟨b9, 5, none⟩ = some (.slice x.od x.D.length x.cd) := by rw [cell_of_row _ _ 5 _ _ _ hS.2]; rfl
        have x6 : w'.cell? ⟨b9, 6, none⟩ = some (.int .i64 x.l) := by rw [cell_of_row _ _ 6 _ _ _ hS.2]; rfl
        have x7 : w'.cell? ⟨b9, 7, none⟩ = some (.int .i64 x.u) := by rw [cell_of_row _ _ 7 _ _ _ hS.2]; rfl
        go_simp
      refine wpPureH_step (.pointer (some ⟨Q, q * 8, none⟩)) rfl rfl (fun w' hS => ?_) ?_
      · go_simp
      refine wpPureH_nil ?_
      have HKd := hide (HK2.out.below (Below.refl _ _).drew)
      have HNd := hide (HN.out.below (Below.refl _ _).drew)
      have HBd := hide HB.out.drew
      have HZd := hide (at_below HZ.out.2 (Below.refl _ _).drew)
      have hb9 := HZ.out.1
      clear HK2 HN HB HZ
      generalize (World.drew _) = w0 at *
      have g0 := HKd.out.g0 Hq.out
      have g1 := HKd.out.g1 Hq.out
      have g2 := HKd.out.g2 Hq.out
      have g3 := HKd.out.g3 Hq.out
      have g4 := HKd.out.g4 Hq.out
      have g5 := HKd.out.g5 Hq.out
      have g6 := HKd.out.g6 Hq.out
      have g7 := HKd.out.g7 Hq.out
      have f0 := HKd.out.row.frozenAt (q * 8)
      have f1 := HKd.out.row.frozenAt (q * 8 + 1)
      have f2 := HKd.out.row.frozenAt (q * 8 + 2)
      have f3 := HKd.out.row.frozenAt (q * 8 + 3)
      have f4 := HKd.out.row.frozenAt (q * 8 + 4)
      have f5 := HKd.out.row.frozenAt (q * 8 + 5)
      have f6 := HKd.out.row.frozenAt (q * 8 + 6)
      have f7 := HKd.out.row.frozenAt (q * 8 + 7)
      refine one_readyH (i := 8) (by kernel_rfl) rfl rfl (fun J hJ => ?_)
      go_simp
      have HKz := hide (HKd.out.setGate q g x Hq.out ⟨HNd.out.1.1, .new HNd.out.1.2 (by omega) (by omega) (by omega)⟩ ⟨HNd.out.2.1, .new HNd.out.2.2 (by omega) (by omega) (by omega)⟩)
      have HF := hide ((((((((Kq.setCell (.ofBelow HBd.out) (S := KQ K Q) (p := ⟨Q, q * 8, none⟩) (.inr rfl) (.int .i64 x.i)).setCell (p := ⟨Q, q * 8 + 1, none⟩) (.inr rfl) (.int .i64 x.z)).setCell (p := ⟨Q, q * 8 + 2, none⟩) (.inr rfl) (.int .i64 x.s)).setCell (p := ⟨Q, q * 8 + 3, none⟩) (.inr rfl) (.slice x.oa x.A.length x.ca)).setCell (p := ⟨Q, q * 8 + 4, none⟩) (.inr rfl) (.int .i64 x.v)).setCell (p := ⟨Q, q * 8 + 5, none⟩) (.inr rfl) (.slice x.od x.D.length x.cd)).setCell (p := ⟨Q, q * 8 + 6, none⟩) (.inr rfl) (.int .i64 x.l)).setCell (p := ⟨Q, q * 8 + 7, none⟩) (.inr rfl) (.int .i64 x.u))
      have HZ2 := hide (heap_setO (heap_setO (heap_setO (heap_setO (heap_setO (heap_setO (heap_setO (heap_setO HZd.out (p := ⟨Q, q * 8, none⟩) (by simp; omega) (.int .i64 x.i)) (p := ⟨Q, q * 8 + 1, none⟩) (by simp; omega) (.int .i64 x.z)) (p := ⟨Q, q * 8 + 2, none⟩) (by simp; omega) (.int .i64 x.s)) (p := ⟨Q, q * 8 + 3, none⟩) (by simp; omega) (.slice x.oa x.A.length x.ca)) (p := ⟨Q, q * 8 + 4, none⟩) (by simp; omega) (.int .i64 x.v)) (p := ⟨Q, q * 8 + 5, none⟩) (by simp; omega) (.slice x.od x.D.length x.cd)) (p := ⟨Q, q * 8 + 6, none⟩) (by simp; omega) (.int .i64 x.l)) (p := ⟨Q, q * 8 + 7, none⟩) (by simp; omega) (.int .i64 x.u))
      refine hJ _ _ ?_ ?_
      · have hne : Q ≠ K := fun e => HKd.out.ne e.symm
        exact ⟨heap_setO (heap_setO (heap_setO (heap_setO (heap_setO (heap_setO (heap_setO (heap_setO HKd.out.box (p := ⟨Q, q * 8, none⟩) hne _) (p := ⟨Q, q * 8 + 1, none⟩) hne _) (p := ⟨Q, q * 8 + 2, none⟩) hne _) (p := ⟨Q, q * 8 + 3, none⟩) hne _) (p := ⟨Q, q * 8 + 4, none⟩) hne _) (p := ⟨Q, q * 8 + 5, none⟩) hne _) (p := ⟨Q, q * 8 + 6, none⟩) hne _) (p := ⟨Q, q * 8 + 7, none⟩) hne _, HZ2.out⟩
      clear hJ J g0 g1 g2 g3 g4 g5 g6 g7 f0 f1 f2 f3 f4 f5 f6 f7 HKd HNd HBd HZd
      generalize (((((((w0.setCell ⟨Q, q * 8, none⟩ (.int .i64 x.i)).setCell ⟨Q, q * 8 + 1, none⟩ (.int .i64 x.z)).setCell ⟨Q, q * 8 + 2, none⟩ (.int .i64 x.s)).setCell ⟨Q, q * 8 + 3, none⟩ (.slice x.oa x.A.length x.ca)).setCell ⟨Q, q * 8 + 4, none⟩ (.int .i64 x.v)).setCell ⟨Q, q * 8 + 5, none⟩ (.slice x.od x.D.length x.cd)).setCell ⟨Q, q * 8 + 6, none⟩ (.int .i64 x.l)).setCell ⟨Q, q * 8 + 7, none⟩ (.int .i64 x.u) = wz at *
      refine wpAnyH_done (by kernel_rfl) ?_ _
      go_wp2_with fail
      go_ret
      exact ⟨⟨0, HE.out, rfl, fun h => absurd rfl h, fun _ => ⟨x, HX0.out, HKz.out⟩⟩, HF.out⟩
    · have hE' : ¬ E = 0 := by simpa using hE
      go_wp2_with fail
      go_ret
      exact ⟨⟨E, HE.out, rfl, fun _ => HK2.out, fun h => absurd h hE'⟩, .ofBelow HB.out⟩
end Go.Proofs.YtcjfmbeemdcklaaGreat
