/-
  'Tap' (package gate).
-/
import Derived.Test.YtlnmheooicancaaJ5
namespace Go.Proofs.Ytlnmheooicancaa
open Go.RowKit

theorem Tap5.setne {w : World} {b : Nat} {x : TP} (h : Tap5 w ⟨b, 0, none⟩ x) (p : Addr) (hne : p.block ≠ b) (u : Value) : Tap5 (w.setCell p u) ⟨b, 0, none⟩ x :=
  ⟨cell_set_ne hne h.c0, cell_set_ne hne h.c1, cell_set_ne hne h.c2, cell_set_ne hne h.c3, cell_set_ne hne h.c4⟩

theorem Blks.put8 {w w1 : World} {os : List Obj} (h : Blks w w1 os) (n b : Nat) (a0 a1 a2 a3 a4 a5 a6 a7 x0 x1 x2 x3 x4 x5 x6 x7 : Value) (T : TypeId) (hi : os[n]? = some (.cells #[a0, a1, a2, a3, a4, a5, a6, a7] T)) (hb : b = w.heap.size + n) :
    Blks w ((((((((w1.setCell ⟨b, 0, none⟩ (x0)).setCell ⟨b, 1, none⟩ (x1)).setCell ⟨b, 2, none⟩ (x2)).setCell ⟨b, 3, none⟩ (x3)).setCell ⟨b, 4, none⟩ (x4)).setCell ⟨b, 5, none⟩ (x5)).setCell ⟨b, 6, none⟩ (x6)).setCell ⟨b, 7, none⟩ (x7)) (os.set n (.cells #[x0, x1, x2, x3, x4, x5, x6, x7] T)) := by
  have hn := (List.getElem?_eq_some_iff.1 hi).1
  have h0 := h.put n 0 b _ T x0 hi hb
  have h1 := h0.put n 1 b #[x0, a1, a2, a3, a4, a5, a6, a7] T x1 (by rw [List.getElem?_set_self hn]; rfl) hb
  rw [List.set_set] at h1
  have h2 := h1.put n 2 b #[x0, x1, a2, a3, a4, a5, a6, a7] T x2 (by rw [List.getElem?_set_self hn]; rfl) hb
  rw [List.set_set] at h2
  have h3 := h2.put n 3 b #[x0, x1, x2, a3, a4, a5, a6, a7] T x3 (by rw [List.getElem?_set_self hn]; rfl) hb
  rw [List.set_set] at h3
  have h4 := h3.put n 4 b #[x0, x1, x2, x3, a4, a5, a6, a7] T x4 (by rw [List.getElem?_set_self hn]; rfl) hb
  rw [List.set_set] at h4
  have h5 := h4.put n 5 b #[x0, x1, x2, x3, x4, a5, a6, a7] T x5 (by rw [List.getElem?_set_self hn]; rfl) hb
  rw [List.set_set] at h5
  have h6 := h5.put n 6 b #[x0, x1, x2, x3, x4, x5, a6, a7] T x6 (by rw [List.getElem?_set_self hn]; rfl) hb
  rw [List.set_set] at h6
  have h7 := h6.put n 7 b #[x0, x1, x2, x3, x4, x5, x6, a7] T x7 (by rw [List.getElem?_set_self hn]; rfl) hb
  rw [List.set_set] at h7
  exact h7

theorem Blks.put5 {w w1 : World} {os : List Obj} (h : Blks w w1 os) (n b : Nat) (a0 a1 a2 a3 a4 x0 x1 x2 x3 x4 : Value) (T : TypeId) (hi : os[n]? = some (.cells #[a0, a1, a2, a3, a4] T)) (hb : b = w.heap.size + n) :
    Blks w (((((w1.setCell ⟨b, 0, none⟩ (x0)).setCell ⟨b, 1, none⟩ (x1)).setCell ⟨b, 2, none⟩ (x2)).setCell ⟨b, 3, none⟩ (x3)).setCell ⟨b, 4, none⟩ (x4)) (os.set n (.cells #[x0, x1, x2, x3, x4] T)) := by
  have hn := (List.getElem?_eq_some_iff.1 hi).1
  have h0 := h.put n 0 b _ T x0 hi hb
  have h1 := h0.put n 1 b #[x0, a1, a2, a3, a4] T x1 (by rw [List.getElem?_set_self hn]; rfl) hb
  rw [List.set_set] at h1
  have h2 := h1.put n 2 b #[x0, x1, a2, a3, a4] T x2 (by rw [List.getElem?_set_self hn]; rfl) hb
  rw [List.set_set] at h2
  have h3 := h2.put n 3 b #[x0, x1, x2, a3, a4] T x3 (by rw [List.getElem?_set_self hn]; rfl) hb
  rw [List.set_set] at h3
  have h4 := h3.put n 4 b #[x0, x1, x2, x3, a4] T x4 (by rw [List.getElem?_set_self hn]; rfl) hb
  rw [List.set_set] at h4
  exact h4

/-- what Tap says -/
def tapG (i z s : Int) (P : List TP) (v : Int) (D : List Int) (l u : Int) (x : TK) (m : Int) : Int :=
  if unfG i z s P v D l u x m = 0 then (if shutG D u z x m = 0 then (if spentG P l x = true then 10 else if fullG P.length s = true then 2 else 0) else shutG D u z x m) else unfG i z s P v D l u x m

theorem tapG_ways (i z s : Int) (P : List TP) (v : Int) (D : List Int) (l u : Int) (x : TK) (m : Int) : ((unfG i z s P v D l u x m != 0) = true ∧ tapG i z s P v D l u x m = unfG i z s P v D l u x m) ∨ (unfG i z s P v D l u x m = 0 ∧ (shutG D u z x m != 0) = true ∧ tapG i z s P v D l u x m = shutG D u z x m) ∨
    (unfG i z s P v D l u x m = 0 ∧ shutG D u z x m = 0 ∧ spentG P l x = true ∧ tapG i z s P v D l u x m = 10) ∨ (unfG i z s P v D l u x m = 0 ∧ shutG D u z x m = 0 ∧ spentG P l x = false ∧ fullG P.length s = true ∧ tapG i z s P v D l u x m = 2) ∨
    (unfG i z s P v D l u x m = 0 ∧ shutG D u z x m = 0 ∧ spentG P l x = false ∧ fullG P.length s = false ∧ tapG i z s P v D l u x m = 0) := by
  rw [tapG]
  by_cases h1 : unfG i z s P v D l u x m = 0
  · by_cases h2 : shutG D u z x m = 0
    · cases spentG P l x <;> cases fullG P.length s <;> simp [h1, h2]
    · simp [h1, h2]
  · simp [h1]

theorem unfG_right {i z s : Int} {P : List TP} {v : Int} {D : List Int} {l u : Int} {x : TK} {m : Int} (h : unfG i z s P v D l u x m = 0) : chkG i z s P v D l u = 0 ∧ chkK x = 0 ∧ wi m 0 9999 = true ∧ earlyG P m = false := by
  rcases unfG_ways i z s P v D l u x m with ⟨h1, h2⟩ | ⟨h1, h2, h3⟩ | ⟨h1, h2, h3, h4⟩ | ⟨h1, h2, h3, h4, h5⟩ | ⟨h1, h2, h3, h4, h5⟩
  · rw [h2] at h; rw [h] at h1; cases h1
  · rw [h3] at h; rw [h] at h2; cases h2
  · omega
  · omega
  · exact ⟨h1, h2, h3, h4⟩

/-- what follows of a ticket that a gate can be asked for -/
theorem unfG_more {i z s : Int} {P : List TP} {v : Int} {D : List Int} {l u : Int} {ti k f t y r m : Int} (h : unfG i z s P v D l u ⟨ti, k, f, t, y, r⟩ m = 0) : unfD v D ti = 0 ∧ 0 ≤ y ∧ y ≤ 15 ∧ isZ z = true ∧ 0 ≤ s ∧ s ≤ 99 ∧ P.length ≤ 12 ∧ D.length ≤ 12 ∧ 0 ≤ l ∧ l ≤ 9 := by
  obtain ⟨h1, h2, -, -⟩ := unfG_right h
  obtain ⟨g1, -, g3, g4⟩ := chkG_right h1
  have e1 := errS_right g1
  have e2 := chkD_right g3
  have e3 := chk_right (show chk ti k f t y r = 0 from h2)
  have e4 : wi l 0 9 = true := by
    rw [errB] at g4
    cases hw : wi l 0 9
    · rw [hw] at g4; simp at g4
    · rfl
  rw [wi_iff] at e4
  exact ⟨by rw [unfD, if_pos g3, (wi_iff ti 1 9999).2 ⟨e3.1.1, e3.1.2⟩, if_pos rfl], by omega, by omega, e1.2.2.1, e1.2.1.1, e1.2.1.2, e1.2.2.2, e2.2.2.1, e4.1, e4.2⟩

set_option maxHeartbeats 3200000 in
theorem gateTap_err (i z s : Int) (oa : Option Addr) (P : List TP) (ca : Nat) (v : Int) (od : Option Addr) (D : List Int) (cd : Nat) (l u : Int) (ti k f t y r m : Int) (w : World) (hP : TapsAt w oa P) (hD : IntsAt w od D) (hlP : P.length ≤ 9223372036854775807) (hlD : D.length ≤ 9223372036854775807) (hE : tapG i z s P v D l u ⟨ti, k, f, t, y, r⟩ m ≠ 0) :
    Calls Try.prog 6 #[gtV i z s oa P.length ca v od D.length cd l u, tk ti k f t y r, .int .i64 m] w fun e w' => e = .returned (.tuple #[gtV 0 0 0 none 0 0 0 none 0 0 0 0, tp 0 0 0 0 0, .int .i64 (tapG i z s P v D l u ⟨ti, k, f, t, y, r⟩ m)]) ∧ Below w.heap.size w w' := by
  have HU := hide (fun W (h : TapsAt W oa P) (h' : IntsAt W od D) => gateUnfit_any i z s oa P ca v od D cd l u ti k f t y r m W h h' hlD)
  have HS := hide (fun W (h0 : unfG i z s P v D l u ⟨ti, k, f, t, y, r⟩ m = 0) (h' : IntsAt W od D) => gateShut_any i z s oa P ca v od D cd l u ti k f t y r m W h' hlD (unfG_more h0).1 (unfG_more h0).2.1 (unfG_more h0).2.2.1 (unfG_more h0).2.2.2.1)
  have HN := hide (fun W (h : TapsAt W oa P) => gateSpent_any i z s oa P ca v od D cd l u ti k f t y r W h hlP)
  have HF := hide (fun W => fullG_any i z s oa P.length ca v od D.length cd l u W)
  have HP := hide hP
  have HD := hide hD
  clear hP hD
  have hp := tapG_ways i z s P v D l u ⟨ti, k, f, t, y, r⟩ m
  generalize tapG i z s P v D l u ⟨ti, k, f, t, y, r⟩ m = E at *
  generalize unfG i z s P v D l u ⟨ti, k, f, t, y, r⟩ m = X1 at *
  generalize shutG D u z ⟨ti, k, f, t, y, r⟩ m = X2 at *
  generalize spentG P l ⟨ti, k, f, t, y, r⟩ = X3 at *
  generalize fullG P.length s = X4 at *
  rcases hp with ⟨h1, rfl⟩ | ⟨rfl, h1, rfl⟩ | ⟨rfl, rfl, rfl, rfl⟩ | ⟨rfl, rfl, rfl, rfl, rfl⟩ | ⟨-, -, -, -, rfl⟩
  rotate_left 4
  · exact absurd rfl hE
  all_goals
    clear hE
    go_enter Try.func6, Try.ntmps6
    go_wp2_with fail
    have HG1 := hide ((((((Blks.nil w).more (.cells #[.int .i64 i, .int .i64 z, .int .i64 s, .slice oa P.length ca, .int .i64 v, .slice od D.length cd, .int .i64 l, .int .i64 u] 29) (by simp)).more (.cells #[.int .i64 ti, .int .i64 k, .int .i64 f, .int .i64 t, .int .i64 y, .int .i64 r] 39) (by simp)).more (.cells #[.int .i64 0, .int .i64 0, .int .i64 0, .slice none 0 0, .int .i64 0, .slice none 0 0, .int .i64 0, .int .i64 0] 29) (by simp)).more (.cells #[.int .i64 0, .int .i64 0, .int .i64 0, .int .i64 0, .int .i64 0] 35) (by simp)).more (.cells #[.int .i64 i, .int .i64 z, .int .i64 s, .slice oa P.length ca, .int .i64 v, .slice od D.length cd, .int .i64 l, .int .i64 u] 48) (by simp))
    refine (HU.out _ (HP.out.below HG1.out.2.2) (HD.out.below HG1.out.2.2)).mono ?_
    rintro e w1 ⟨rfl, hb⟩
    have HG1w1 := hide (HG1.out.on hb)
    clear hb HG1
    have lG1_1 := HG1w1.out.lt 1 (w.heap.size + 1) (by simp) rfl
    have cG1_1_0 := HG1w1.out.cell 1 0 (w.heap.size + 1) _ _ _ rfl rfl rfl
    have cG1_1_1 := HG1w1.out.cell 1 1 (w.heap.size + 1) _ _ _ rfl rfl rfl
    have cG1_1_2 := HG1w1.out.cell 1 2 (w.heap.size + 1) _ _ _ rfl rfl rfl
    have cG1_1_3 := HG1w1.out.cell 1 3 (w.heap.size + 1) _ _ _ rfl rfl rfl
    have cG1_1_4 := HG1w1.out.cell 1 4 (w.heap.size + 1) _ _ _ rfl rfl rfl
    have cG1_1_5 := HG1w1.out.cell 1 5 (w.heap.size + 1) _ _ _ rfl rfl rfl
    have lG1_2 := HG1w1.out.lt 2 (w.heap.size + 1 + 1) (by simp) rfl
    have cG1_2_0 := HG1w1.out.cell 2 0 (w.heap.size + 1 + 1) _ _ _ rfl rfl rfl
    have fG1_2_0 := HG1w1.out.frozen 2 0 (w.heap.size + 1 + 1) _ _ rfl rfl
    have cG1_2_1 := HG1w1.out.cell 2 1 (w.heap.size + 1 + 1) _ _ _ rfl rfl rfl
    have fG1_2_1 := HG1w1.out.frozen 2 1 (w.heap.size + 1 + 1) _ _ rfl rfl
    have cG1_2_2 := HG1w1.out.cell 2 2 (w.heap.size + 1 + 1) _ _ _ rfl rfl rfl
    have fG1_2_2 := HG1w1.out.frozen 2 2 (w.heap.size + 1 + 1) _ _ rfl rfl
    have cG1_2_3 := HG1w1.out.cell 2 3 (w.heap.size + 1 + 1) _ _ _ rfl rfl rfl
    have fG1_2_3 := HG1w1.out.frozen 2 3 (w.heap.size + 1 + 1) _ _ rfl rfl
    have cG1_2_4 := HG1w1.out.cell 2 4 (w.heap.size + 1 + 1) _ _ _ rfl rfl rfl
    have fG1_2_4 := HG1w1.out.frozen 2 4 (w.heap.size + 1 + 1) _ _ rfl rfl
    have cG1_2_5 := HG1w1.out.cell 2 5 (w.heap.size + 1 + 1) _ _ _ rfl rfl rfl
    have fG1_2_5 := HG1w1.out.frozen 2 5 (w.heap.size + 1 + 1) _ _ rfl rfl
    have cG1_2_6 := HG1w1.out.cell 2 6 (w.heap.size + 1 + 1) _ _ _ rfl rfl rfl
    have fG1_2_6 := HG1w1.out.frozen 2 6 (w.heap.size + 1 + 1) _ _ rfl rfl
    have cG1_2_7 := HG1w1.out.cell 2 7 (w.heap.size + 1 + 1) _ _ _ rfl rfl rfl
    have fG1_2_7 := HG1w1.out.frozen 2 7 (w.heap.size + 1 + 1) _ _ rfl rfl
    have lG1_3 := HG1w1.out.lt 3 (w.heap.size + 1 + 1 + 1) (by simp) rfl
    have cG1_3_0 := HG1w1.out.cell 3 0 (w.heap.size + 1 + 1 + 1) _ _ _ rfl rfl rfl
    have fG1_3_0 := HG1w1.out.frozen 3 0 (w.heap.size + 1 + 1 + 1) _ _ rfl rfl
    have cG1_3_1 := HG1w1.out.cell 3 1 (w.heap.size + 1 + 1 + 1) _ _ _ rfl rfl rfl
    have fG1_3_1 := HG1w1.out.frozen 3 1 (w.heap.size + 1 + 1 + 1) _ _ rfl rfl
    have cG1_3_2 := HG1w1.out.cell 3 2 (w.heap.size + 1 + 1 + 1) _ _ _ rfl rfl rfl
    have fG1_3_2 := HG1w1.out.frozen 3 2 (w.heap.size + 1 + 1 + 1) _ _ rfl rfl
    have cG1_3_3 := HG1w1.out.cell 3 3 (w.heap.size + 1 + 1 + 1) _ _ _ rfl rfl rfl
    have fG1_3_3 := HG1w1.out.frozen 3 3 (w.heap.size + 1 + 1 + 1) _ _ rfl rfl
    have cG1_3_4 := HG1w1.out.cell 3 4 (w.heap.size + 1 + 1 + 1) _ _ _ rfl rfl rfl
    have fG1_3_4 := HG1w1.out.frozen 3 4 (w.heap.size + 1 + 1 + 1) _ _ rfl rfl
    have lG1_4 := HG1w1.out.lt 4 (w.heap.size + 1 + 1 + 1 + 1) (by simp) rfl
    have cG1_4_0 := HG1w1.out.cell 4 0 (w.heap.size + 1 + 1 + 1 + 1) _ _ _ rfl rfl rfl
    have cG1_4_1 := HG1w1.out.cell 4 1 (w.heap.size + 1 + 1 + 1 + 1) _ _ _ rfl rfl rfl
    have cG1_4_2 := HG1w1.out.cell 4 2 (w.heap.size + 1 + 1 + 1 + 1) _ _ _ rfl rfl rfl
    have cG1_4_3 := HG1w1.out.cell 4 3 (w.heap.size + 1 + 1 + 1 + 1) _ _ _ rfl rfl rfl
    have cG1_4_4 := HG1w1.out.cell 4 4 (w.heap.size + 1 + 1 + 1 + 1) _ _ _ rfl rfl rfl
    have cG1_4_5 := HG1w1.out.cell 4 5 (w.heap.size + 1 + 1 + 1 + 1) _ _ _ rfl rfl rfl
    have cG1_4_6 := HG1w1.out.cell 4 6 (w.heap.size + 1 + 1 + 1 + 1) _ _ _ rfl rfl rfl
    have cG1_4_7 := HG1w1.out.cell 4 7 (w.heap.size + 1 + 1 + 1 + 1) _ _ _ rfl rfl rfl
    go_wp2_with fail
  · refine bodyPost_ret (v := .tuple #[gtV 0 0 0 none 0 0 0 none 0 0 0 0, tp 0 0 0 0 0, .int .i64 E]) (by simp [results, Try.results6, go_sem, *]) rfl ⟨rfl, ?_⟩
    repeat (first | with_reducible refine Below.setCell ?_ (by simp; try omega) _ | exact HG1w1.out.2.2)
  all_goals
    refine (HS.out _ trivial (HD.out.below HG1w1.out.2.2)).mono ?_
    rintro e w2 ⟨rfl, hb⟩
    have HG1w2 := hide (HG1w1.out.on hb)
    clear lG1_1 cG1_1_0 cG1_1_1 cG1_1_2 cG1_1_3 cG1_1_4 cG1_1_5 lG1_2 cG1_2_0 fG1_2_0 cG1_2_1 fG1_2_1 cG1_2_2 fG1_2_2 cG1_2_3 fG1_2_3 cG1_2_4 fG1_2_4 cG1_2_5 fG1_2_5 cG1_2_6 fG1_2_6 cG1_2_7 fG1_2_7 lG1_3 cG1_3_0 fG1_3_0 cG1_3_1 fG1_3_1 cG1_3_2 fG1_3_2 cG1_3_3 fG1_3_3 cG1_3_4 fG1_3_4 lG1_4 cG1_4_0 cG1_4_1 cG1_4_2 cG1_4_3 cG1_4_4 cG1_4_5 cG1_4_6 cG1_4_7
    clear hb HG1w1
    have lG1_1 := HG1w2.out.lt 1 (w.heap.size + 1) (by simp) rfl
    have cG1_1_0 := HG1w2.out.cell 1 0 (w.heap.size + 1) _ _ _ rfl rfl rfl
    have cG1_1_1 := HG1w2.out.cell 1 1 (w.heap.size + 1) _ _ _ rfl rfl rfl
    have cG1_1_2 := HG1w2.out.cell 1 2 (w.heap.size + 1) _ _ _ rfl rfl rfl
    have cG1_1_3 := HG1w2.out.cell 1 3 (w.heap.size + 1) _ _ _ rfl rfl rfl
    have cG1_1_4 := HG1w2.out.cell 1 4 (w.heap.size + 1) _ _ _ rfl rfl rfl
    have cG1_1_5 := HG1w2.out.cell 1 5 (w.heap.size + 1) _ _ _ rfl rfl rfl
    have lG1_2 := HG1w2.out.lt 2 (w.heap.size + 1 + 1) (by simp) rfl
    have cG1_2_0 := HG1w2.out.cell 2 0 (w.heap.size + 1 + 1) _ _ _ rfl rfl rfl
    have fG1_2_0 := HG1w2.out.frozen 2 0 (w.heap.size + 1 + 1) _ _ rfl rfl
    have cG1_2_1 := HG1w2.out.cell 2 1 (w.heap.size + 1 + 1) _ _ _ rfl rfl rfl
    have fG1_2_1 := HG1w2.out.frozen 2 1 (w.heap.size + 1 + 1) _ _ rfl rfl
    have cG1_2_2 := HG1w2.out.cell 2 2 (w.heap.size + 1 + 1) _ _ _ rfl rfl rfl
    have fG1_2_2 := HG1w2.out.frozen 2 2 (w.heap.size + 1 + 1) _ _ rfl rfl
    have cG1_2_3 := HG1w2.out.cell 2 3 (w.heap.size + 1 + 1) _ _ _ rfl rfl rfl
    have fG1_2_3 := HG1w2.out.frozen 2 3 (w.heap.size + 1 + 1) _ _ rfl rfl
    have cG1_2_4 := HG1w2.out.cell 2 4 (w.heap.size + 1 + 1) _ _ _ rfl rfl rfl
    have fG1_2_4 := HG1w2.out.frozen 2 4 (w.heap.size + 1 + 1) _ _ rfl rfl
    have cG1_2_5 := HG1w2.out.cell 2 5 (w.heap.size + 1 + 1) _ _ _ rfl rfl rfl
    have fG1_2_5 := HG1w2.out.frozen 2 5 (w.heap.size + 1 + 1) _ _ rfl rfl
    have cG1_2_6 := HG1w2.out.cell 2 6 (w.heap.size + 1 + 1) _ _ _ rfl rfl rfl
    have fG1_2_6 := HG1w2.out.frozen 2 6 (w.heap.size + 1 + 1) _ _ rfl rfl
    have cG1_2_7 := HG1w2.out.cell 2 7 (w.heap.size + 1 + 1) _ _ _ rfl rfl rfl
    have fG1_2_7 := HG1w2.out.frozen 2 7 (w.heap.size + 1 + 1) _ _ rfl rfl
    have lG1_3 := HG1w2.out.lt 3 (w.heap.size + 1 + 1 + 1) (by simp) rfl
    have cG1_3_0 := HG1w2.out.cell 3 0 (w.heap.size + 1 + 1 + 1) _ _ _ rfl rfl rfl
    have fG1_3_0 := HG1w2.out.frozen 3 0 (w.heap.size + 1 + 1 + 1) _ _ rfl rfl
    have cG1_3_1 := HG1w2.out.cell 3 1 (w.heap.size + 1 + 1 + 1) _ _ _ rfl rfl rfl
    have fG1_3_1 := HG1w2.out.frozen 3 1 (w.heap.size + 1 + 1 + 1) _ _ rfl rfl
    have cG1_3_2 := HG1w2.out.cell 3 2 (w.heap.size + 1 + 1 + 1) _ _ _ rfl rfl rfl
    have fG1_3_2 := HG1w2.out.frozen 3 2 (w.heap.size + 1 + 1 + 1) _ _ rfl rfl
    have cG1_3_3 := HG1w2.out.cell 3 3 (w.heap.size + 1 + 1 + 1) _ _ _ rfl rfl rfl
    have fG1_3_3 := HG1w2.out.frozen 3 3 (w.heap.size + 1 + 1 + 1) _ _ rfl rfl
    have cG1_3_4 := HG1w2.out.cell 3 4 (w.heap.size + 1 + 1 + 1) _ _ _ rfl rfl rfl
    have fG1_3_4 := HG1w2.out.frozen 3 4 (w.heap.size + 1 + 1 + 1) _ _ rfl rfl
    have lG1_4 := HG1w2.out.lt 4 (w.heap.size + 1 + 1 + 1 + 1) (by simp) rfl
    have cG1_4_0 := HG1w2.out.cell 4 0 (w.heap.size + 1 + 1 + 1 + 1) _ _ _ rfl rfl rfl
    have cG1_4_1 := HG1w2.out.cell 4 1 (w.heap.size + 1 + 1 + 1 + 1) _ _ _ rfl rfl rfl
    have cG1_4_2 := HG1w2.out.cell 4 2 (w.heap.size + 1 + 1 + 1 + 1) _ _ _ rfl rfl rfl
    have cG1_4_3 := HG1w2.out.cell 4 3 (w.heap.size + 1 + 1 + 1 + 1) _ _ _ rfl rfl rfl
    have cG1_4_4 := HG1w2.out.cell 4 4 (w.heap.size + 1 + 1 + 1 + 1) _ _ _ rfl rfl rfl
    have cG1_4_5 := HG1w2.out.cell 4 5 (w.heap.size + 1 + 1 + 1 + 1) _ _ _ rfl rfl rfl
    have cG1_4_6 := HG1w2.out.cell 4 6 (w.heap.size + 1 + 1 + 1 + 1) _ _ _ rfl rfl rfl
    have cG1_4_7 := HG1w2.out.cell 4 7 (w.heap.size + 1 + 1 + 1 + 1) _ _ _ rfl rfl rfl
    go_wp2_with fail
  · refine bodyPost_ret (v := .tuple #[gtV 0 0 0 none 0 0 0 none 0 0 0 0, tp 0 0 0 0 0, .int .i64 E]) (by simp [results, Try.results6, go_sem, *]) rfl ⟨rfl, ?_⟩
    repeat (first | with_reducible refine Below.setCell ?_ (by simp; try omega) _ | exact HG1w2.out.2.2)
  all_goals
    refine (HN.out _ (HP.out.below HG1w2.out.2.2)).mono ?_
    rintro e w3 ⟨rfl, hb⟩
    have HG1w3 := hide (HG1w2.out.on hb)
    clear lG1_1 cG1_1_0 cG1_1_1 cG1_1_2 cG1_1_3 cG1_1_4 cG1_1_5 lG1_2 cG1_2_0 fG1_2_0 cG1_2_1 fG1_2_1 cG1_2_2 fG1_2_2 cG1_2_3 fG1_2_3 cG1_2_4 fG1_2_4 cG1_2_5 fG1_2_5 cG1_2_6 fG1_2_6 cG1_2_7 fG1_2_7 lG1_3 cG1_3_0 fG1_3_0 cG1_3_1 fG1_3_1 cG1_3_2 fG1_3_2 cG1_3_3 fG1_3_3 cG1_3_4 fG1_3_4 lG1_4 cG1_4_0 cG1_4_1 cG1_4_2 cG1_4_3 cG1_4_4 cG1_4_5 cG1_4_6 cG1_4_7
    clear hb HG1w2
    have lG1_1 := HG1w3.out.lt 1 (w.heap.size + 1) (by simp) rfl
    have cG1_1_0 := HG1w3.out.cell 1 0 (w.heap.size + 1) _ _ _ rfl rfl rfl
    have cG1_1_1 := HG1w3.out.cell 1 1 (w.heap.size + 1) _ _ _ rfl rfl rfl
    have cG1_1_2 := HG1w3.out.cell 1 2 (w.heap.size + 1) _ _ _ rfl rfl rfl
    have cG1_1_3 := HG1w3.out.cell 1 3 (w.heap.size + 1) _ _ _ rfl rfl rfl
    have cG1_1_4 := HG1w3.out.cell 1 4 (w.heap.size + 1) _ _ _ rfl rfl rfl
    have cG1_1_5 := HG1w3.out.cell 1 5 (w.heap.size + 1) _ _ _ rfl rfl rfl
    have lG1_2 := HG1w3.out.lt 2 (w.heap.size + 1 + 1) (by simp) rfl
    have cG1_2_0 := HG1w3.out.cell 2 0 (w.heap.size + 1 + 1) _ _ _ rfl rfl rfl
    have fG1_2_0 := HG1w3.out.frozen 2 0 (w.heap.size + 1 + 1) _ _ rfl rfl
    have cG1_2_1 := HG1w3.out.cell 2 1 (w.heap.size + 1 + 1) _ _ _ rfl rfl rfl
    have fG1_2_1 := HG1w3.out.frozen 2 1 (w.heap.size + 1 + 1) _ _ rfl rfl
    have cG1_2_2 := HG1w3.out.cell 2 2 (w.heap.size + 1 + 1) _ _ _ rfl rfl rfl
    have fG1_2_2 := HG1w3.out.frozen 2 2 (w.heap.size + 1 + 1) _ _ rfl rfl
    have cG1_2_3 := HG1w3.out.cell 2 3 (w.heap.size + 1 + 1) _ _ _ rfl rfl rfl
    have fG1_2_3 := HG1w3.out.frozen 2 3 (w.heap.size + 1 + 1) _ _ rfl rfl
    have cG1_2_4 := HG1w3.out.cell 2 4 (w.heap.size + 1 + 1) _ _ _ rfl rfl rfl
    have fG1_2_4 := HG1w3.out.frozen 2 4 (w.heap.size + 1 + 1) _ _ rfl rfl
    have cG1_2_5 := HG1w3.out.cell 2 5 (w.heap.size + 1 + 1) _ _ _ rfl rfl rfl
    have fG1_2_5 := HG1w3.out.frozen 2 5 (w.heap.size + 1 + 1) _ _ rfl rfl
    have cG1_2_6 := HG1w3.out.cell 2 6 (w.heap.size + 1 + 1) _ _ _ rfl rfl rfl
    have fG1_2_6 := HG1w3.out.frozen 2 6 (w.heap.size + 1 + 1) _ _ rfl rfl
    have cG1_2_7 := HG1w3.out.cell 2 7 (w.heap.size + 1 + 1) _ _ _ rfl rfl rfl
    have fG1_2_7 := HG1w3.out.frozen 2 7 (w.heap.size + 1 + 1) _ _ rfl rfl
    have lG1_3 := HG1w3.out.lt 3 (w.heap.size + 1 + 1 + 1) (by simp) rfl
    have cG1_3_0 := HG1w3.out.cell 3 0 (w.heap.size + 1 + 1 + 1) _ _ _ rfl rfl rfl
    have fG1_3_0 := HG1w3.out.frozen 3 0 (w.heap.size + 1 + 1 + 1) _ _ rfl rfl
    have cG1_3_1 := HG1w3.out.cell 3 1 (w.heap.size + 1 + 1 + 1) _ _ _ rfl rfl rfl
    have fG1_3_1 := HG1w3.out.frozen 3 1 (w.heap.size + 1 + 1 + 1) _ _ rfl rfl
    have cG1_3_2 := HG1w3.out.cell 3 2 (w.heap.size + 1 + 1 + 1) _ _ _ rfl rfl rfl
    have fG1_3_2 := HG1w3.out.frozen 3 2 (w.heap.size + 1 + 1 + 1) _ _ rfl rfl
    have cG1_3_3 := HG1w3.out.cell 3 3 (w.heap.size + 1 + 1 + 1) _ _ _ rfl rfl rfl
    have fG1_3_3 := HG1w3.out.frozen 3 3 (w.heap.size + 1 + 1 + 1) _ _ rfl rfl
    have cG1_3_4 := HG1w3.out.cell 3 4 (w.heap.size + 1 + 1 + 1) _ _ _ rfl rfl rfl
    have fG1_3_4 := HG1w3.out.frozen 3 4 (w.heap.size + 1 + 1 + 1) _ _ rfl rfl
    have lG1_4 := HG1w3.out.lt 4 (w.heap.size + 1 + 1 + 1 + 1) (by simp) rfl
    have cG1_4_0 := HG1w3.out.cell 4 0 (w.heap.size + 1 + 1 + 1 + 1) _ _ _ rfl rfl rfl
    have cG1_4_1 := HG1w3.out.cell 4 1 (w.heap.size + 1 + 1 + 1 + 1) _ _ _ rfl rfl rfl
    have cG1_4_2 := HG1w3.out.cell 4 2 (w.heap.size + 1 + 1 + 1 + 1) _ _ _ rfl rfl rfl
    have cG1_4_3 := HG1w3.out.cell 4 3 (w.heap.size + 1 + 1 + 1 + 1) _ _ _ rfl rfl rfl
    have cG1_4_4 := HG1w3.out.cell 4 4 (w.heap.size + 1 + 1 + 1 + 1) _ _ _ rfl rfl rfl
    have cG1_4_5 := HG1w3.out.cell 4 5 (w.heap.size + 1 + 1 + 1 + 1) _ _ _ rfl rfl rfl
    have cG1_4_6 := HG1w3.out.cell 4 6 (w.heap.size + 1 + 1 + 1 + 1) _ _ _ rfl rfl rfl
    have cG1_4_7 := HG1w3.out.cell 4 7 (w.heap.size + 1 + 1 + 1 + 1) _ _ _ rfl rfl rfl
    go_wp2_with fail
  · refine bodyPost_ret (v := .tuple #[gtV 0 0 0 none 0 0 0 none 0 0 0 0, tp 0 0 0 0 0, .int .i64 10]) (by simp [results, Try.results6, go_sem, *]) rfl ⟨rfl, ?_⟩
    repeat (first | with_reducible refine Below.setCell ?_ (by simp; try omega) _ | exact HG1w3.out.2.2)
  · refine (HF.out _).mono ?_
    rintro e w4 ⟨rfl, hb⟩
    have HG1w4 := hide (HG1w3.out.on hb)
    clear lG1_1 cG1_1_0 cG1_1_1 cG1_1_2 cG1_1_3 cG1_1_4 cG1_1_5 lG1_2 cG1_2_0 fG1_2_0 cG1_2_1 fG1_2_1 cG1_2_2 fG1_2_2 cG1_2_3 fG1_2_3 cG1_2_4 fG1_2_4 cG1_2_5 fG1_2_5 cG1_2_6 fG1_2_6 cG1_2_7 fG1_2_7 lG1_3 cG1_3_0 fG1_3_0 cG1_3_1 fG1_3_1 cG1_3_2 fG1_3_2 cG1_3_3 fG1_3_3 cG1_3_4 fG1_3_4 lG1_4 cG1_4_0 cG1_4_1 cG1_4_2 cG1_4_3 cG1_4_4 cG1_4_5 cG1_4_6 cG1_4_7
    clear hb HG1w3
    have lG1_1 := HG1w4.out.lt 1 (w.heap.size + 1) (by simp) rfl
    have cG1_1_0 := HG1w4.out.cell 1 0 (w.heap.size + 1) _ _ _ rfl rfl rfl
    have cG1_1_1 := HG1w4.out.cell 1 1 (w.heap.size + 1) _ _ _ rfl rfl rfl
    have cG1_1_2 := HG1w4.out.cell 1 2 (w.heap.size + 1) _ _ _ rfl rfl rfl
    have cG1_1_3 := HG1w4.out.cell 1 3 (w.heap.size + 1) _ _ _ rfl rfl rfl
    have cG1_1_4 := HG1w4.out.cell 1 4 (w.heap.size + 1) _ _ _ rfl rfl rfl
    have cG1_1_5 := HG1w4.out.cell 1 5 (w.heap.size + 1) _ _ _ rfl rfl rfl
    have lG1_2 := HG1w4.out.lt 2 (w.heap.size + 1 + 1) (by simp) rfl
    have cG1_2_0 := HG1w4.out.cell 2 0 (w.heap.size + 1 + 1) _ _ _ rfl rfl rfl
    have fG1_2_0 := HG1w4.out.frozen 2 0 (w.heap.size + 1 + 1) _ _ rfl rfl
    have cG1_2_1 := HG1w4.out.cell 2 1 (w.heap.size + 1 + 1) _ _ _ rfl rfl rfl
    have fG1_2_1 := HG1w4.out.frozen 2 1 (w.heap.size + 1 + 1) _ _ rfl rfl
    have cG1_2_2 := HG1w4.out.cell 2 2 (w.heap.size + 1 + 1) _ _ _ rfl rfl rfl
    have fG1_2_2 := HG1w4.out.frozen 2 2 (w.heap.size + 1 + 1) _ _ rfl rfl
    have cG1_2_3 := HG1w4.out.cell 2 3 (w.heap.size + 1 + 1) _ _ _ rfl rfl rfl
    have fG1_2_3 := HG1w4.out.frozen 2 3 (w.heap.size + 1 + 1) _ _ rfl rfl
    have cG1_2_4 := HG1w4.out.cell 2 4 (w.heap.size + 1 + 1) _ _ _ rfl rfl rfl
    have fG1_2_4 := HG1w4.out.frozen 2 4 (w.heap.size + 1 + 1) _ _ rfl rfl
    have cG1_2_5 := HG1w4.out.cell 2 5 (w.heap.size + 1 + 1) _ _ _ rfl rfl rfl
    have fG1_2_5 := HG1w4.out.frozen 2 5 (w.heap.size + 1 + 1) _ _ rfl rfl
    have cG1_2_6 := HG1w4.out.cell 2 6 (w.heap.size + 1 + 1) _ _ _ rfl rfl rfl
    have fG1_2_6 := HG1w4.out.frozen 2 6 (w.heap.size + 1 + 1) _ _ rfl rfl
    have cG1_2_7 := HG1w4.out.cell 2 7 (w.heap.size + 1 + 1) _ _ _ rfl rfl rfl
    have fG1_2_7 := HG1w4.out.frozen 2 7 (w.heap.size + 1 + 1) _ _ rfl rfl
    have lG1_3 := HG1w4.out.lt 3 (w.heap.size + 1 + 1 + 1) (by simp) rfl
    have cG1_3_0 := HG1w4.out.cell 3 0 (w.heap.size + 1 + 1 + 1) _ _ _ rfl rfl rfl
    have fG1_3_0 := HG1w4.out.frozen 3 0 (w.heap.size + 1 + 1 + 1) _ _ rfl rfl
    have cG1_3_1 := HG1w4.out.cell 3 1 (w.heap.size + 1 + 1 + 1) _ _ _ rfl rfl rfl
    have fG1_3_1 := HG1w4.out.frozen 3 1 (w.heap.size + 1 + 1 + 1) _ _ rfl rfl
    have cG1_3_2 := HG1w4.out.cell 3 2 (w.heap.size + 1 + 1 + 1) _ _ _ rfl rfl rfl
    have fG1_3_2 := HG1w4.out.frozen 3 2 (w.heap.size + 1 + 1 + 1) _ _ rfl rfl
    have cG1_3_3 := HG1w4.out.cell 3 3 (w.heap.size + 1 + 1 + 1) _ _ _ rfl rfl rfl
    have fG1_3_3 := HG1w4.out.frozen 3 3 (w.heap.size + 1 + 1 + 1) _ _ rfl rfl
    have cG1_3_4 := HG1w4.out.cell 3 4 (w.heap.size + 1 + 1 + 1) _ _ _ rfl rfl rfl
    have fG1_3_4 := HG1w4.out.frozen 3 4 (w.heap.size + 1 + 1 + 1) _ _ rfl rfl
    have lG1_4 := HG1w4.out.lt 4 (w.heap.size + 1 + 1 + 1 + 1) (by simp) rfl
    have cG1_4_0 := HG1w4.out.cell 4 0 (w.heap.size + 1 + 1 + 1 + 1) _ _ _ rfl rfl rfl
    have cG1_4_1 := HG1w4.out.cell 4 1 (w.heap.size + 1 + 1 + 1 + 1) _ _ _ rfl rfl rfl
    have cG1_4_2 := HG1w4.out.cell 4 2 (w.heap.size + 1 + 1 + 1 + 1) _ _ _ rfl rfl rfl
    have cG1_4_3 := HG1w4.out.cell 4 3 (w.heap.size + 1 + 1 + 1 + 1) _ _ _ rfl rfl rfl
    have cG1_4_4 := HG1w4.out.cell 4 4 (w.heap.size + 1 + 1 + 1 + 1) _ _ _ rfl rfl rfl
    have cG1_4_5 := HG1w4.out.cell 4 5 (w.heap.size + 1 + 1 + 1 + 1) _ _ _ rfl rfl rfl
    have cG1_4_6 := HG1w4.out.cell 4 6 (w.heap.size + 1 + 1 + 1 + 1) _ _ _ rfl rfl rfl
    have cG1_4_7 := HG1w4.out.cell 4 7 (w.heap.size + 1 + 1 + 1 + 1) _ _ _ rfl rfl rfl
    go_wp2_with fail
    refine bodyPost_ret (v := .tuple #[gtV 0 0 0 none 0 0 0 none 0 0 0 0, tp 0 0 0 0 0, .int .i64 2]) (by simp [results, Try.results6, go_sem, *]) rfl ⟨rfl, ?_⟩
    repeat (first | with_reducible refine Below.setCell ?_ (by simp; try omega) _ | exact HG1w4.out.2.2)
end Go.Proofs.Ytlnmheooicancaa
