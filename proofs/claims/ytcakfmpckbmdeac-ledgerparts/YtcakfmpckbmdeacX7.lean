/-
  The walk of LedgerParts.
-/
import Derived.Test.YtcakfmpckbmdeacW2
import Derived.Test.YtcakfmpckbmdeacW6
import Derived.Test.YtcakfmpckbmdeacM4
import Derived.Lib.QuietBelow
namespace Go.Proofs.Ytcakfmpckbmdeac
open Go.RowKit

/-- the two boxes of LedgerParts -/
def BoxesW (w w1 : World) (o1 o2 o3 : Option Addr) (n1 c1 n2 c2 n3 c3 : Nat) (t : TK) : Prop :=
  Led3 w1 w.heap.size o1 o2 o3 n1 c1 n2 c2 n3 c3 ∧ Tik6 w1 ⟨w.heap.size + 1, 0, none⟩ t ∧ w.heap.size + 1 < w1.heap.size ∧ Below w.heap.size w w1

theorem boxesW_of (o1 o2 o3 : Option Addr) (n1 c1 n2 c2 n3 c3 : Nat) (i k f t z r : Int) (w w1 : World) (h : Below ((w.alloc (cL o1 o2 o3 n1 c1 n2 c2 n3 c3 26)).alloc (cK i k f t z r 28)).heap.size ((w.alloc (cL o1 o2 o3 n1 c1 n2 c2 n3 c3 26)).alloc (cK i k f t z r 28)) w1) :
    BoxesW w w1 o1 o2 o3 n1 c1 n2 c2 n3 c3 ⟨i, k, f, t, z, r⟩ := by
  have s1 := h.size
  simp at s1
  refine ⟨Led3.below (w := (w.alloc (cL o1 o2 o3 n1 c1 n2 c2 n3 c3 26)).alloc (cK i k f t z r 28)) ⟨?_, ?_, ?_⟩ h (by simp; omega), Tik6.below (w := (w.alloc (cL o1 o2 o3 n1 c1 n2 c2 n3 c3 26)).alloc (cK i k f t z r 28)) ⟨?_, ?_, ?_, ?_, ?_, ?_⟩ h (by simp), by omega,
    Below.trans (((Below.refl _ _).alloc (Nat.le_refl _) _).alloc (by simp) _) (h.mono (by simp; omega))⟩
  all_goals simp [go_sem]

theorem BoxesW.on {w w1 w2 : World} {o1 o2 o3 : Option Addr} {n1 c1 n2 c2 n3 c3 : Nat} {t : TK} (h : BoxesW w w1 o1 o2 o3 n1 c1 n2 c2 n3 c3 t) (hb : Below w1.heap.size w1 w2) : BoxesW w w2 o1 o2 o3 n1 c1 n2 c2 n3 c3 t :=
  ⟨h.1.below hb h.1.lt, h.2.1.below hb h.2.1.lt, Nat.lt_of_lt_of_le h.2.2.1 hb.size, h.2.2.2.trans (hb.mono h.2.2.2.size)⟩

theorem led_caps {w : World} {o1 o2 o3 : Option Addr} {n1 n2 n3 c1 c2 c3 : Nat} {T : List TK} {P : List TP} {V : List Int} (h : LedV w (lg o1 o2 o3 n1 c1 n2 c2 n3 c3) T P V) : T.length ≤ c1 ∧ P.length ≤ c2 ∧ V.length ≤ c3 := by
  obtain ⟨p1, e1, p2, e2, p3, e3, e, a1, a2, a3, l, -⟩ := h.opened
  simp only [lg, Value.agg.injEq] at e
  injection e with e
  injection e with e4 e
  injection e with e5 e
  injection e with e6 e
  injection e4 with e7 _ e8
  injection e5 with e9 _ e10
  injection e6 with e11 _ e12
  subst e8 e10 e12
  exact l

/-- a beginning of a ledger that lies in memory -/
theorem LedV.take {w : World} {o1 o2 o3 : Option Addr} {c1 c2 c3 : Nat} {T : List TK} {P : List TP} {V : List Int} (h : LedV w (lg o1 o2 o3 T.length c1 P.length c2 V.length c3) T P V) (q : Nat) (h1 : q ≤ P.length) (h2 : q ≤ V.length) :
    LedV w (lg o1 o2 o3 T.length c1 q c2 q c3) T (P.take q) (V.take q) := by
  obtain ⟨p1, e1, p2, e2, p3, e3, e, a1, a2, a3, ⟨l1, l2, l3⟩, n1, n2, n3⟩ := h.opened
  simp only [lg, Value.agg.injEq] at e
  injection e with e
  injection e with e4 e
  injection e with e5 e
  injection e with e6 e
  injection e4 with e7 _ e8
  injection e5 with e9 _ e10
  injection e6 with e11 _ e12
  subst e7 e8 e9 e10 e11 e12
  exact ⟨_, _, _, rfl, ⟨o1, c1, rfl, a1, l1, n1⟩, ⟨o2, c2, by rw [List.length_take, Nat.min_eq_left h1], a2.take q, by rw [List.length_take]; omega, n2⟩, ⟨o3, c3, by rw [List.length_take, Nat.min_eq_left h2], a3.take q, by rw [List.length_take]; omega, n3⟩⟩

theorem cell_set_other {w : World} {a b : Addr} {u x y : Value} (ha : w.cell? a = some x) (hb : w.cell? b = some y) (hne : x ≠ y) : (w.setCell b u).cell? a = some x := by
  rw [World.cell?_setCell_other]
  · exact ha
  · intro e
    subst e
    rw [ha] at hb
    exact hne (Option.some.inj hb)

theorem cell_other1 {w : World} {a b : Addr} {u x : Value} (ha : w.cell? a = some x) (hne : a ≠ b) : (w.setCell b u).cell? a = some x := by
  rw [World.cell?_setCell_other]
  · exact ha
  · first | exact hne | exact hne.symm

theorem LedV.setSlice {w : World} {v : Value} {T : List TK} {P : List TP} {V : List Int} (h : LedV w v T P V) {b : Addr} {o : Option Addr} {n c : Nat} (hb : w.cell? b = some (.slice o n c)) (u : Value) : LedV (w.setCell b u) v T P V := by
  obtain ⟨v1, v2, v3, rfl, ⟨o1, c1, rfl, a1, l1⟩, ⟨o2, c2, rfl, a2, l2⟩, ⟨o3, c3, rfl, a3, l3⟩⟩ := h
  refine ⟨_, _, _, rfl, ⟨o1, c1, rfl, fun i p hi => ?_, l1⟩, ⟨o2, c2, rfl, fun i p hi => ?_, l2⟩, ⟨o3, c3, rfl, fun i p hi => ?_, l3⟩⟩
  · obtain ⟨d, e, z0, z1, z2, z3, z4, z5⟩ := a1 i p hi
    exact ⟨d, e, cell_set_other z0 hb (by simp), cell_set_other z1 hb (by simp), cell_set_other z2 hb (by simp), cell_set_other z3 hb (by simp), cell_set_other z4 hb (by simp), cell_set_other z5 hb (by simp)⟩
  · obtain ⟨d, e, z0, z1, z2, z3, z4⟩ := a2 i p hi
    exact ⟨d, e, cell_set_other z0 hb (by simp), cell_set_other z1 hb (by simp), cell_set_other z2 hb (by simp), cell_set_other z3 hb (by simp), cell_set_other z4 hb (by simp)⟩
  · obtain ⟨d, e, z0⟩ := a3 i p hi
    exact ⟨d, e, cell_set_other z0 hb (by simp)⟩

theorem led_int {w : World} {o1 o2 : Option Addr} {B : Addr} {n1 n2 n3 c1 c2 c3 q : Nat} {v : Int} {T : List TK} {P : List TP} {V : List Int} (h : LedV w (lg o1 o2 (some B) n1 c1 n2 c2 n3 c3) T P V) (hv : V[q]? = some v) : w.cell? (B.add q) = some (.int .i64 v) := by
  obtain ⟨p1, e1, p2, e2, p3, e3, e, a1, a2, a3, -⟩ := h.opened
  simp only [lg, Value.agg.injEq] at e
  injection e with e
  injection e with e4 e
  injection e with e5 e
  injection e with e6 e
  injection e6 with e11 _ e12
  subst e11
  obtain ⟨C, hC, hC'⟩ := a3 q v hv
  cases hC
  exact hC'

theorem same_ledV {w : World} {x y : Value} {T : List TK} {P : List TP} {V : List Int} (hx : LedV w x T P V) (hy : LedV w y T P V) (l1 : T.length ≤ 100) (l2 : P.length ≤ 100) (l3 : V.length ≤ 100) : Calls Try.prog 14 #[x, y] w fun e w' => e = .returned (.bool true) ∧ Below w.heap.size w w' := by
  obtain ⟨o1, c1, o2, c2, o3, c3, rfl, a1, a2, a3, -⟩ := hx.opened
  obtain ⟨q1, d1, q2, d2, q3, d3, rfl, b1, b2, b3, -⟩ := hy.opened
  exact sameLedger_same T P V o1 o2 o3 q1 q2 q3 c1 c2 c3 d1 d2 d3 w a1 a2 a3 b1 b2 b3 l1 l2 l3

theorem enter_prefix {T : List TK} {P : List TP} {V : List Int} {q : Nat} {p : TP} {v : Int} (hC : chkL T P V = 0) (hp : P[q]? = some p) (hv : V[q]? = some v) {W : World} {x : Value} (hW : LedV W x T (P.take q) (V.take q)) :
    Calls Try.prog 13 #[x, tp p.a p.g p.s p.m p.z] W fun e w' => (∃ oe1 ce1 oe2 ce2 oe3 ce3, e = .returned (.tuple #[lg oe1 oe2 oe3 T.length ce1 (q + 1) ce2 (q + 1) ce3, .int .i64 v, .int .i64 0]) ∧ LedV w' (lg oe1 oe2 oe3 T.length ce1 (q + 1) ce2 (q + 1) ce3) T (P.take (q + 1)) (V.take (q + 1))) ∧ Below W.heap.size W w' := by
  have hc := chkL_right hC
  have h1 := (List.getElem?_eq_some_iff.1 hp).1
  have h2 := (List.getElem?_eq_some_iff.1 hv).1
  have e1 : enterV T (P.take q) (V.take q) ⟨p.a, p.g, p.s, p.m, p.z⟩ = (v, 0) := prefix_enter hC hp hv
  have h := enterVv hW (by simp only [LensOk, List.length_take]; omega) p.a p.g p.s p.m p.z
  rw [e1] at h
  simp only [if_true] at h
  have e2 : P.take q ++ [(⟨p.a, p.g, p.s, p.m, p.z⟩ : TP)] = P.take (q + 1) := by rw [List.take_add_one, hp]; rfl
  have e3 : V.take q ++ [v] = V.take (q + 1) := by rw [List.take_add_one, hv]; rfl
  rw [e2, e3] at h
  refine h.mono ?_
  rintro e w' ⟨⟨y, rfl, hy⟩, hb⟩
  obtain ⟨oe1, ce1, oe2, ce2, oe3, ce3, rfl, hy'⟩ := hy.parts
  rw [List.length_take, List.length_take, Nat.min_eq_left (by omega), Nat.min_eq_left (by omega)] at hy' ⊢
  exact ⟨⟨oe1, ce1, oe2, ce2, oe3, ce3, rfl, hy'⟩, hb⟩

set_option maxHeartbeats 6400000 in
set_option maxRecDepth 100000 in
theorem ledgerParts_walk (T : List TK) (P : List TP) (V : List Int) (n i k f t z r : Int) (o1 o2 o3 : Option Addr) (c1 c2 c3 : Nat) (w : World) (h : LedV w (lg o1 o2 o3 T.length c1 P.length c2 V.length c3) T P V) (hl : LensOk T P V) :
    Calls Try.prog 3 #[lg o1 o2 o3 T.length c1 P.length c2 V.length c3, .int .i64 n, tk i k f t z r] w fun e w' => e = .returned (.bool true) ∧ Below w.heap.size w w' := by
  have HL0 := hide h
  have HC := hide (fun W (h : LedV W (lg o1 o2 o3 T.length c1 P.length c2 V.length c3) T P V) => checkV h hl)
  have HS := hide (fun W (h : LedV W (lg o1 o2 o3 T.length c1 P.length c2 V.length c3) T P V) => sellV h hl i k f t z r)
  have HCap0 := hide (led_caps h)
  clear h
  go_enter Try.func3, Try.ntmps3
  go_wp2_with fail
  refine (ledgerBegun_any _).mono ?_
  rintro e w1 ⟨rfl, hb1⟩
  have HB1 := hide (boxesW_of _ _ _ _ _ _ _ _ _ _ _ _ _ _ _ _ _ hb1)
  clear hb1
  have HL1 := hide (HL0.out.below HB1.out.2.2.2)
  obtain ⟨⟨x0, x1, x2⟩, -, -, -⟩ := HB1.out
  go_wp2_with fail
  refine (HC.out _ HL1.out).mono ?_
  rintro e w2 ⟨rfl, hb2⟩
  have HB2 := hide (HB1.out.on hb2)
  have HL2 := hide (HL1.out.below hb2)
  clear hb2 HB1 HL0 HL1 x0 x1 x2
  by_cases hC : chkL T P V = 0
  · have Hck := hide (chkL_right hC)
    have HCk := hide hC
    rw [hC]
    clear hC
    obtain ⟨⟨x0, x1, x2⟩, ⟨y0, y1, y2, y3, y4, y5⟩, hq, -⟩ := HB2.out
    simp only [Nat.zero_add] at y0 y1 y2 y3 y4 y5
    go_wp2_with fail
    refine (HS.out _ HL2.out).mono ?_
    rintro e w3 ⟨⟨va, rfl, hva⟩, hb3⟩
    have HB3 := hide (HB2.out.on hb3)
    have HL3 := hide (HL2.out.below hb3)
    clear hb3 HB2 HL2 HS x0 x1 x2 y0 y1 y2 y3 y4 y5 hq
    have hN : Hid (n < 0 ∨ (¬ n < 0 ∧ (P.length : Int) ≤ n) ∨ ∃ q : Nat, n = (q : Int) ∧ q < P.length ∧ ∃ p v, P[q]? = some p ∧ V[q]? = some v) := by
      rcases Int.lt_or_le n 0 with h1 | h1
      · exact hide (Or.inl h1)
      rcases Int.lt_or_le n P.length with h2 | h2
      · obtain ⟨q, rfl⟩ := Int.eq_ofNat_of_zero_le h1
        have h3 := Hck.out.2.2.1
        exact hide (Or.inr (Or.inr ⟨q, rfl, by omega, P[q], V[q], List.getElem?_eq_getElem (by omega), List.getElem?_eq_getElem (by omega)⟩))
      · exact hide (Or.inr (Or.inl ⟨by omega, h2⟩))
    have HCap : Hid (T.length ≤ c1 ∧ P.length ≤ c2 ∧ V.length ≤ c3) := HCap0
    have hT12 : T.length ≤ 12 := Hck.out.1
    have hP60 : P.length ≤ 60 := Hck.out.2.1
    by_cases hE : sellE T P V ⟨i, k, f, t, z, r⟩ = 0
    · rw [if_pos hE, if_pos hE, if_pos hE] at hva
      have HSc := hide (sell_chk hE)
      rw [hE]
      clear hE
      obtain ⟨oa1, ca1, oa2, ca2, oa3, ca3, rfl, hva'⟩ := hva.parts
      have HA := hide hva'
      clear hva hva'
      rw [soldT_len] at HA ⊢
      go_wp2_with fail
      have hb := (Below.refl w3.heap.size w3).alloc (Nat.le_refl _) (cL oa1 oa2 oa3 (T.length + 1) ca1 P.length ca2 V.length ca3 26)
      have HN3 : Hid (Led3 (w3.alloc (cL oa1 oa2 oa3 (T.length + 1) ca1 P.length ca2 V.length ca3 26)) w3.heap.size oa1 oa2 oa3 (T.length + 1) ca1 P.length ca2 V.length ca3) := hide ⟨by simp [go_sem], by simp [go_sem], by simp [go_sem]⟩
      have HA4 := hide (HA.out.below hb)
      have HB4 := hide (HB3.out.on hb)
      have HL4 := hide (HL3.out.below hb)
      clear hb HA HB3 HL3
      generalize w3.alloc (cL oa1 oa2 oa3 (T.length + 1) ca1 P.length ca2 V.length ca3 26) = w4 at *
      refine (checkV HA4.out (by have := Hck.out.2.2.1; simp only [LensOk, soldT_len]; omega)).mono ?_
      rintro e w5 ⟨rfl, hb5⟩
      rw [HSc.out]
      have HA5 := hide (HA4.out.below hb5)
      have HB5 := hide (HB4.out.on hb5)
      have HL5 := hide (HL4.out.below hb5)
      have HN5 := hide (HN3.out.below hb5 HN3.out.lt)
      clear hb5 HA4 HB4 HL4 HN3
      obtain ⟨⟨x0, x1, x2⟩, -, -, -⟩ := HB5.out
      obtain ⟨z0, z1, z2⟩ := HN5.out
      go_wp2_with fail
      refine (sameTaps_same P oa2 o2 ca2 c2 _ (by
        obtain ⟨p1, e1, p2, e2, p3, e3, e, a1, a2, a3, -⟩ := HA5.out.opened
        simp only [lg, Value.agg.injEq] at e
        injection e with e
        injection e with e4 e
        injection e with e5 e
        injection e5 with e9 _ e10
        subst e9
        exact a2) (by
        obtain ⟨p1, e1, p2, e2, p3, e3, e, a1, a2, a3, -⟩ := HL5.out.opened
        simp only [lg, Value.agg.injEq] at e
        injection e with e
        injection e with e4 e
        injection e with e5 e
        injection e5 with e9 _ e10
        subst e9
        exact a2) (by omega)).mono ?_
      rintro e w6 ⟨rfl, hb6⟩
      have HB6 := hide (HB5.out.on hb6)
      have HL6 := hide (HL5.out.below hb6)
      have HN6 := hide (HN5.out.below hb6 HN5.out.lt)
      clear hb6 HA5 HB5 HL5 HN5 x0 x1 x2 z0 z1 z2
      obtain ⟨⟨x0, x1, x2⟩, -, -, -⟩ := HB6.out
      obtain ⟨z0, z1, z2⟩ := HN6.out
      rcases hN.out with h1 | ⟨h1, h2⟩ | ⟨q, h1, hq, p, v, hp, hv⟩
      · go_wp2_with fail
        go_ret
        exact ⟨rfl, HB6.out.2.2.2⟩
      · go_wp2_with fail
        go_ret
        exact ⟨rfl, HB6.out.2.2.2⟩
      · subst h1
        have HP := hide hp
        have HV := hide hv
        have hle : ¬ (P.length : Int) ≤ (q : Int) := by omega
        clear hp hv
        have hq2 : q + 1 ≤ c2 := by have := HCap.out.2.1; omega
        have hq3 : q + 1 ≤ c3 := by have := HCap.out.2.2; have := Hck.out.2.2.1; omega
        go_wp2_with fail
        clear x0 x1 x2
        obtain ⟨A, B, rfl, rfl, hX, hY⟩ : ∃ A B, o2 = some A ∧ o3 = some B ∧ Tap5 w6 (A.add (q * 5)) p ∧ w6.cell? (B.add q) = some (.int .i64 v) := by
          obtain ⟨p1, e1, p2, e2, p3, e3, e, a1, a2, a3, -⟩ := HL6.out.opened
          simp only [lg, Value.agg.injEq] at e
          injection e with e
          injection e with e4 e
          injection e with e5 e
          injection e with e6 e
          injection e5 with e9 _ e10
          injection e6 with e11 _ e12
          subst e9 e11
          obtain ⟨A, hA, hA'⟩ := a2 q p HP.out
          obtain ⟨B, hB, hB'⟩ := a3 q v HV.out
          exact ⟨A, B, hA, hB, hA', hB'⟩
        have HX := hide hX
        have HY := hide hY
        clear hX hY
        refine wp_region_reads (fun w' => BoxesW w w' o1 (some A) (some B) T.length c1 P.length c2 V.length c3 ⟨i, k, f, t, z, r⟩ ∧ Tap5 w' (A.add (q * 5)) p) [0, 1, 2, 3, 4, 5, 6, 7, 8, 9, 10, 11, 12, 13, 14, 15] 9 (by rfl) (by kernel_rfl) (by kernel_rfl) (by kernel_rfl) (fun c d v a w h => by cases d <;> exact h) ?_ ?_
        · exact ⟨HB6.out.on (Below.refl _ _).drew, HX.out.below (Below.refl _ _).drew HX.out.lt⟩
        refine wpPureH_step (.pointer (some ⟨w.heap.size, 0, none⟩)) rfl rfl (fun w' hS => ?_) ?_
        · obtain ⟨⟨⟨x0, x1, x2⟩, -, -, -⟩, ⟨z0, z1, z2, z3, z4⟩⟩ := hS
          go_simp
          try (intro h; omega)
        refine wpPureH_step (.slice o1 T.length c1) rfl rfl (fun w' hS => ?_) ?_
        · obtain ⟨⟨⟨x0, x1, x2⟩, -, -, -⟩, ⟨z0, z1, z2, z3, z4⟩⟩ := hS
          go_simp
          try (intro h; omega)
        refine wpPureH_step (.pointer (some ⟨w.heap.size, 1, none⟩)) rfl rfl (fun w' hS => ?_) ?_
        · obtain ⟨⟨⟨x0, x1, x2⟩, -, -, -⟩, ⟨z0, z1, z2, z3, z4⟩⟩ := hS
          go_simp
          try (intro h; omega)
        refine wpPureH_step (.slice (some A) P.length c2) rfl rfl (fun w' hS => ?_) ?_
        · obtain ⟨⟨⟨x0, x1, x2⟩, -, -, -⟩, ⟨z0, z1, z2, z3, z4⟩⟩ := hS
          go_simp
          try (intro h; omega)
        refine wpPureH_step (.int .i64 (q : Int)) rfl rfl (fun w' hS => ?_) ?_
        · obtain ⟨⟨⟨x0, x1, x2⟩, -, -, -⟩, ⟨z0, z1, z2, z3, z4⟩⟩ := hS
          go_simp
          try (intro h; omega)
        refine wpPureH_step (.slice (some A) q c2) rfl rfl (fun w' hS => ?_) ?_
        · obtain ⟨⟨⟨x0, x1, x2⟩, -, -, -⟩, ⟨z0, z1, z2, z3, z4⟩⟩ := hS
          go_simp
          try (intro h; omega)
        refine wpPureH_step (.pointer (some ⟨w.heap.size, 2, none⟩)) rfl rfl (fun w' hS => ?_) ?_
        · obtain ⟨⟨⟨x0, x1, x2⟩, -, -, -⟩, ⟨z0, z1, z2, z3, z4⟩⟩ := hS
          go_simp
          try (intro h; omega)
        refine wpPureH_step (.slice (some B) V.length c3) rfl rfl (fun w' hS => ?_) ?_
        · obtain ⟨⟨⟨x0, x1, x2⟩, -, -, -⟩, ⟨z0, z1, z2, z3, z4⟩⟩ := hS
          go_simp
          try (intro h; omega)
        refine wpPureH_step (.int .i64 (q : Int)) rfl rfl (fun w' hS => ?_) ?_
        · obtain ⟨⟨⟨x0, x1, x2⟩, -, -, -⟩, ⟨z0, z1, z2, z3, z4⟩⟩ := hS
          go_simp
          try (intro h; omega)
        refine wpPureH_step (.slice (some B) q c3) rfl rfl (fun w' hS => ?_) ?_
        · obtain ⟨⟨⟨x0, x1, x2⟩, -, -, -⟩, ⟨z0, z1, z2, z3, z4⟩⟩ := hS
          go_simp
          try (intro h; omega)
        refine wpPureH_step (lg o1 (some A) (some B) T.length c1 q c2 q c3) rfl rfl (fun w' hS => ?_) ?_
        · obtain ⟨⟨⟨x0, x1, x2⟩, -, -, -⟩, ⟨z0, z1, z2, z3, z4⟩⟩ := hS
          go_simp
          try (intro h; omega)
        refine wpPureH_step (.pointer (some ⟨w.heap.size, 1, none⟩)) rfl rfl (fun w' hS => ?_) ?_
        · obtain ⟨⟨⟨x0, x1, x2⟩, -, -, -⟩, ⟨z0, z1, z2, z3, z4⟩⟩ := hS
          go_simp
          try (intro h; omega)
        refine wpPureH_step (.slice (some A) P.length c2) rfl rfl (fun w' hS => ?_) ?_
        · obtain ⟨⟨⟨x0, x1, x2⟩, -, -, -⟩, ⟨z0, z1, z2, z3, z4⟩⟩ := hS
          go_simp
          try (intro h; omega)
        refine wpPureH_step (.int .i64 (q : Int)) rfl rfl (fun w' hS => ?_) ?_
        · obtain ⟨⟨⟨x0, x1, x2⟩, -, -, -⟩, ⟨z0, z1, z2, z3, z4⟩⟩ := hS
          go_simp
          try (intro h; omega)
        refine wpPureH_step (.pointer (some (A.add (q * 5)))) rfl rfl (fun w' hS => ?_) ?_
        · obtain ⟨⟨⟨x0, x1, x2⟩, -, -, -⟩, ⟨z0, z1, z2, z3, z4⟩⟩ := hS
          go_simp
          try (intro h; omega)
        refine wpPureH_step (tp p.a p.g p.s p.m p.z) rfl rfl (fun w' hS => ?_) ?_
        · obtain ⟨⟨⟨x0, x1, x2⟩, -, -, -⟩, ⟨z0, z1, z2, z3, z4⟩⟩ := hS
          go_simp
          try (intro h; omega)
        refine wpPureH_nil ?_
        have HBd := hide (HB6.out.on (Below.refl _ _).drew)
        have HLd := hide (HL6.out.below (Below.refl _ _).drew)
        have HXd := hide (HX.out.below (Below.refl _ _).drew HX.out.lt)
        generalize w6.drew = wd at *
        refine two_readyH (i := 16) (j := 21) (by kernel_rfl) rfl rfl rfl rfl (fun K hK => ?_) (fun K hK => ?_)
        · go_simp
          refine (enter_prefix HCk.out HP.out HV.out (HLd.out.take q (by omega) (by have := Hck.out.2.2.1; omega))).mono ?_
          rintro e wa ⟨⟨oe1, ce1, oe2, ce2, oe3, ce3, rfl, hx⟩, hba⟩
          have HXa := hide hx
          have HB0 := hide (HBd.out.on hba)
          have HL0x := hide (HLd.out.below hba)
          have HX0 := hide (HXd.out.below hba HXd.out.lt)
          clear hx hba HBd HLd HXd
          refine hK _ _ ⟨HB0.out, HX0.out⟩ ?_
          clear hK K
          refine takesH (fuel := 4) (by kernel_rfl) (fun c d v a w h => by cases d <;> exact h) ⟨HB0.out, HX0.out⟩ [17, 18, 19, 20] _ _ (by kernel_rfl) ?_
          refine wpPureH_step (.tuple #[lg oe1 oe2 oe3 T.length ce1 (q + 1) ce2 (q + 1) ce3, .int .i64 v, .int .i64 0]) rfl rfl (fun w' _ => by go_simp) ?_
          refine wpPureH_step (lg oe1 oe2 oe3 T.length ce1 (q + 1) ce2 (q + 1) ce3) rfl rfl (fun w' _ => by go_simp) ?_
          refine wpPureH_step (.int .i64 v) rfl rfl (fun w' _ => by go_simp) ?_
          refine wpPureH_step (.int .i64 0) rfl rfl (fun w' _ => by go_simp) ?_
          refine wpPureH_nil ?_
          refine one_readyH (i := 21) (by kernel_rfl) rfl rfl (fun K hK => ?_)
          go_simp
          have HBW := hide ((Below.refl wa.heap.size wa).alloc (Nat.le_refl _) (cL none none none 0 0 0 0 0 0 26))
          have HXb := hide (HXa.out.below HBW.out)
          have hrow : (wa.alloc (cL none none none 0 0 0 0 0 0 26)).heap[wa.heap.size]? = some (cL none none none 0 0 0 0 0 0 26) := heap_alloc_new' _ _ _ rfl
          refine hK _ _ ⟨HB0.out.on HBW.out, HX0.out.below HBW.out HX0.out.lt⟩ ?_
          clear hK K HXa
          generalize wa.alloc (cL none none none 0 0 0 0 0 0 26) = wb at *
          have r0 := cell_of_row wb _ 0 _ _ _ hrow
          have r1 := cell_of_row wb _ 1 _ _ _ hrow
          have r2 := cell_of_row wb _ 2 _ _ _ hrow
          have s0 := frozen_of_row wb _ 0 _ _ hrow
          have s1 := frozen_of_row wb _ 1 _ _ hrow
          have s2 := frozen_of_row wb _ 2 _ _ hrow
          simp at r0 r1 r2
          clear hrow
          refine one_readyH (i := 22) (by kernel_rfl) rfl rfl (fun K hK => ?_)
          go_simp
          have HG : Hid (Led3 (((wb.setCell ⟨wa.heap.size, 0, none⟩ (.slice oe1 T.length ce1)).setCell ⟨wa.heap.size, 1, none⟩ (.slice oe2 (q + 1) ce2)).setCell ⟨wa.heap.size, 2, none⟩ (.slice oe3 (q + 1) ce3)) (wa.heap.size) oe1 oe2 oe3 T.length ce1 (q + 1) ce2 (q + 1) ce3) := by
            refine hide ⟨?_, ?_, ?_⟩
            all_goals simp [go_sem, r0, r1, r2]
          have HXg : Hid (LedV (((wb.setCell ⟨wa.heap.size, 0, none⟩ (.slice oe1 T.length ce1)).setCell ⟨wa.heap.size, 1, none⟩ (.slice oe2 (q + 1) ce2)).setCell ⟨wa.heap.size, 2, none⟩ (.slice oe3 (q + 1) ce3)) (lg oe1 oe2 oe3 T.length ce1 (q + 1) ce2 (q + 1) ce3) T (P.take (q + 1)) (V.take (q + 1))) := by
            refine hide (((HXb.out.setSlice r0 _).setSlice (cell_other1 r1 (by simp)) _).setSlice (cell_other1 (cell_other1 r2 (by simp)) (by simp)) _)
          have hbg : Below wa.heap.size wa (((wb.setCell ⟨wa.heap.size, 0, none⟩ (.slice oe1 T.length ce1)).setCell ⟨wa.heap.size, 1, none⟩ (.slice oe2 (q + 1) ce2)).setCell ⟨wa.heap.size, 2, none⟩ (.slice oe3 (q + 1) ce3)) := ((HBW.out.setCell (by simp) _).setCell (by simp) _).setCell (by simp) _
          have HBg := hide (HB0.out.on hbg)
          have HLg := hide (HL0x.out.below hbg)
          have HXXg := hide (HX0.out.below hbg HX0.out.lt)
          clear hbg HXb
          refine hK _ _ ⟨HBg.out, HXXg.out⟩ ?_
          clear hK K r0 r1 r2 s0 s1 s2 HBW HB0 HL0x HX0
          generalize ((wb.setCell ⟨wa.heap.size, 0, none⟩ (.slice oe1 T.length ce1)).setCell ⟨wa.heap.size, 1, none⟩ (.slice oe2 (q + 1) ce2)).setCell ⟨wa.heap.size, 2, none⟩ (.slice oe3 (q + 1) ce3) = wg at *
          refine one_readyH (i := 23) (by kernel_rfl) rfl rfl (fun K hK => ?_)
          go_simp
          refine hK _ _ ⟨HBg.out, HXXg.out⟩ ?_
          clear hK K
          refine one_readyH (i := 24) (by kernel_rfl) rfl rfl (fun K hK => ?_)
          go_simp
          refine hK _ _ ⟨HBg.out, HXXg.out⟩ ?_
          clear hK K
          refine wpAnyH_done (by kernel_rfl) ?_ _
          go_wp2_with fail
          clear HXXg
          obtain ⟨⟨x0, x1, x2⟩, -, -, hB⟩ := HBg.out
          obtain ⟨g0, g1, g2⟩ := HG.out
          have y0 := led_int HLg.out HV.out
          have k0 := cell_regrown x0
          have k1 := cell_regrown x1
          have k2 := cell_regrown x2
          have l0 := cell_regrown g0
          have l1 := cell_regrown g1
          have l2 := cell_regrown g2
          have m0 := cell_regrown y0
          have cS : ∀ d os, Calls Try.prog 14 #[lg oe1 oe2 oe3 T.length ce1 (q + 1) ce2 (q + 1) ce3, lg o1 (some A) (some B) T.length c1 (q + 1) c2 (q + 1) c3] (Sort.grow (redrawn wg d) os) fun e w'' => e = .returned (.bool true) ∧ ∃ p : Regrown, w'' = Sort.grow (redrawn wg p.d) p.os :=
            fun d os => Calls.regrown_of (same_ledV (HXg.out.below (below_regrown wg d os)) ((HLg.out.take (q + 1) (by omega) (by have := Hck.out.2.2.1; omega)).below (below_regrown wg d os)) (by omega) (by rw [List.length_take]; omega) (by have := Hck.out.2.2.1; rw [List.length_take]; omega))
          clear x0 x1 x2 g0 g1 g2 y0 HBg HG HLg HXg
          have hqV : q < V.length := by have := Hck.out.2.2.1; omega
          have hqVi : (q : Int) < (V.length : Int) := by omega
          have hqc2 : (q : Int) + 1 ≤ (c2 : Int) := by omega
          have hqn : ((q : Int) + 1).toNat = q + 1 := by omega
          have hqs : 0 ≤ (q : Int) + 1 := by omega
          have hqw : IntKind.i64.wrap ((q : Int) + 1) = (q : Int) + 1 := by rw [IntKind.wrap_i64]; omega
          have hqc3 : (q : Int) + 1 ≤ (c3 : Int) := by omega
          refine wp_region_quiet_below (by kernel_rfl) (by kernel_rfl) ?_
          repeat (quiet_step (exact cS _ _))
          refine wpQuiet_nil ?_
          intro _ hw'
          obtain ⟨⟨dq, osq⟩, hw''⟩ := hw'
          subst hw''
          go_wp2
          go_ret
          exact ⟨by first | rfl | simp, hB.trans ((below_regrown wg dq osq).mono hB.size)⟩
        · go_simp
          have HBW0 := hide ((Below.refl wd.heap.size wd).alloc (Nat.le_refl _) (cL none none none 0 0 0 0 0 0 26))
          have hrow0 : (wd.alloc (cL none none none 0 0 0 0 0 0 26)).heap[wd.heap.size]? = some (cL none none none 0 0 0 0 0 0 26) := heap_alloc_new' _ _ _ rfl
          have hsz : wd.heap.size < (wd.alloc (cL none none none 0 0 0 0 0 0 26)).heap.size := by simp
          refine hK _ _ ⟨HBd.out.on HBW0.out, HXd.out.below HBW0.out HXd.out.lt⟩ ?_
          clear hK K
          generalize wd.alloc (cL none none none 0 0 0 0 0 0 26) = wb at *
          refine one_readyH (i := 16) (by kernel_rfl) rfl rfl (fun K hK => ?_)
          go_simp
          refine (enter_prefix HCk.out HP.out HV.out ((HLd.out.below HBW0.out).take q (by omega) (by have := Hck.out.2.2.1; omega))).mono ?_
          rintro e wc ⟨⟨oe1, ce1, oe2, ce2, oe3, ce3, rfl, hx⟩, hbc⟩
          have HXb := hide hx
          have hrow : wc.heap[wd.heap.size]? = some (cL none none none 0 0 0 0 0 0 26) := by rw [hbc.block _ hsz]; exact hrow0
          have HBW := hide (HBW0.out.trans (hbc.mono (by omega)))
          have HB0 := HBd
          have HL0x := HLd
          have HX0 := HXd
          clear hx hbc hrow0 hsz HBW0 HBd HLd HXd
          refine hK _ _ ⟨HB0.out.on HBW.out, HX0.out.below HBW.out HX0.out.lt⟩ ?_
          clear hK K
          refine takesH (fuel := 3) (by kernel_rfl) (fun c d v a w h => by cases d <;> exact h) ⟨HB0.out.on HBW.out, HX0.out.below HBW.out HX0.out.lt⟩ [17, 18, 19, 20] _ _ (by kernel_rfl) ?_
          refine wpPureH_step (.tuple #[lg oe1 oe2 oe3 T.length ce1 (q + 1) ce2 (q + 1) ce3, .int .i64 v, .int .i64 0]) rfl rfl (fun w' _ => by go_simp) ?_
          refine wpPureH_step (lg oe1 oe2 oe3 T.length ce1 (q + 1) ce2 (q + 1) ce3) rfl rfl (fun w' _ => by go_simp) ?_
          refine wpPureH_step (.int .i64 v) rfl rfl (fun w' _ => by go_simp) ?_
          refine wpPureH_step (.int .i64 0) rfl rfl (fun w' _ => by go_simp) ?_
          refine wpPureH_nil ?_
          have r0 := cell_of_row wc _ 0 _ _ _ hrow
          have r1 := cell_of_row wc _ 1 _ _ _ hrow
          have r2 := cell_of_row wc _ 2 _ _ _ hrow
          have s0 := frozen_of_row wc _ 0 _ _ hrow
          have s1 := frozen_of_row wc _ 1 _ _ hrow
          have s2 := frozen_of_row wc _ 2 _ _ hrow
          simp at r0 r1 r2
          clear hrow
          refine one_readyH (i := 22) (by kernel_rfl) rfl rfl (fun K hK => ?_)
          go_simp
          have HG : Hid (Led3 (((wc.setCell ⟨wd.heap.size, 0, none⟩ (.slice oe1 T.length ce1)).setCell ⟨wd.heap.size, 1, none⟩ (.slice oe2 (q + 1) ce2)).setCell ⟨wd.heap.size, 2, none⟩ (.slice oe3 (q + 1) ce3)) (wd.heap.size) oe1 oe2 oe3 T.length ce1 (q + 1) ce2 (q + 1) ce3) := by
            refine hide ⟨?_, ?_, ?_⟩
            all_goals simp [go_sem, r0, r1, r2]
          have HXg : Hid (LedV (((wc.setCell ⟨wd.heap.size, 0, none⟩ (.slice oe1 T.length ce1)).setCell ⟨wd.heap.size, 1, none⟩ (.slice oe2 (q + 1) ce2)).setCell ⟨wd.heap.size, 2, none⟩ (.slice oe3 (q + 1) ce3)) (lg oe1 oe2 oe3 T.length ce1 (q + 1) ce2 (q + 1) ce3) T (P.take (q + 1)) (V.take (q + 1))) := by
            refine hide (((HXb.out.setSlice r0 _).setSlice (cell_other1 r1 (by simp)) _).setSlice (cell_other1 (cell_other1 r2 (by simp)) (by simp)) _)
          have hbg : Below wd.heap.size wd (((wc.setCell ⟨wd.heap.size, 0, none⟩ (.slice oe1 T.length ce1)).setCell ⟨wd.heap.size, 1, none⟩ (.slice oe2 (q + 1) ce2)).setCell ⟨wd.heap.size, 2, none⟩ (.slice oe3 (q + 1) ce3)) := ((HBW.out.setCell (by simp) _).setCell (by simp) _).setCell (by simp) _
          have HBg := hide (HB0.out.on hbg)
          have HLg := hide (HL0x.out.below hbg)
          have HXXg := hide (HX0.out.below hbg HX0.out.lt)
          clear hbg HXb
          refine hK _ _ ⟨HBg.out, HXXg.out⟩ ?_
          clear hK K r0 r1 r2 s0 s1 s2 HBW HB0 HL0x HX0
          generalize ((wc.setCell ⟨wd.heap.size, 0, none⟩ (.slice oe1 T.length ce1)).setCell ⟨wd.heap.size, 1, none⟩ (.slice oe2 (q + 1) ce2)).setCell ⟨wd.heap.size, 2, none⟩ (.slice oe3 (q + 1) ce3) = wg at *
          refine one_readyH (i := 23) (by kernel_rfl) rfl rfl (fun K hK => ?_)
          go_simp
          refine hK _ _ ⟨HBg.out, HXXg.out⟩ ?_
          clear hK K
          refine one_readyH (i := 24) (by kernel_rfl) rfl rfl (fun K hK => ?_)
          go_simp
          refine hK _ _ ⟨HBg.out, HXXg.out⟩ ?_
          clear hK K
          refine wpAnyH_done (by kernel_rfl) ?_ _
          go_wp2_with fail
          clear HXXg
          obtain ⟨⟨x0, x1, x2⟩, -, -, hB⟩ := HBg.out
          obtain ⟨g0, g1, g2⟩ := HG.out
          have y0 := led_int HLg.out HV.out
          have k0 := cell_regrown x0
          have k1 := cell_regrown x1
          have k2 := cell_regrown x2
          have l0 := cell_regrown g0
          have l1 := cell_regrown g1
          have l2 := cell_regrown g2
          have m0 := cell_regrown y0
          have cS : ∀ d os, Calls Try.prog 14 #[lg oe1 oe2 oe3 T.length ce1 (q + 1) ce2 (q + 1) ce3, lg o1 (some A) (some B) T.length c1 (q + 1) c2 (q + 1) c3] (Sort.grow (redrawn wg d) os) fun e w'' => e = .returned (.bool true) ∧ ∃ p : Regrown, w'' = Sort.grow (redrawn wg p.d) p.os :=
            fun d os => Calls.regrown_of (same_ledV (HXg.out.below (below_regrown wg d os)) ((HLg.out.take (q + 1) (by omega) (by have := Hck.out.2.2.1; omega)).below (below_regrown wg d os)) (by omega) (by rw [List.length_take]; omega) (by have := Hck.out.2.2.1; rw [List.length_take]; omega))
          clear x0 x1 x2 g0 g1 g2 y0 HBg HG HLg HXg
          have hqV : q < V.length := by have := Hck.out.2.2.1; omega
          have hqVi : (q : Int) < (V.length : Int) := by omega
          have hqc2 : (q : Int) + 1 ≤ (c2 : Int) := by omega
          have hqn : ((q : Int) + 1).toNat = q + 1 := by omega
          have hqs : 0 ≤ (q : Int) + 1 := by omega
          have hqw : IntKind.i64.wrap ((q : Int) + 1) = (q : Int) + 1 := by rw [IntKind.wrap_i64]; omega
          have hqc3 : (q : Int) + 1 ≤ (c3 : Int) := by omega
          refine wp_region_quiet_below (by kernel_rfl) (by kernel_rfl) ?_
          repeat (quiet_step (exact cS _ _))
          refine wpQuiet_nil ?_
          intro _ hw'
          obtain ⟨⟨dq, osq⟩, hw''⟩ := hw'
          subst hw''
          go_wp2
          go_ret
          exact ⟨by first | rfl | simp, hB.trans ((below_regrown wg dq osq).mono hB.size)⟩
    · rw [if_neg hE, if_neg hE, if_neg hE] at hva
      have hE' : (sellE T P V ⟨i, k, f, t, z, r⟩ == 0) = false := by simpa using hE
      clear hE
      generalize sellE T P V ⟨i, k, f, t, z, r⟩ = x at *
      obtain ⟨oa1, ca1, oa2, ca2, oa3, ca3, rfl, -⟩ := hva.parts
      simp only [List.length_nil]
      clear hva
      have hb := (Below.refl w3.heap.size w3).alloc (Nat.le_refl _) (cL oa1 oa2 oa3 0 ca1 0 ca2 0 ca3 26)
      have HB4 := hide (HB3.out.on hb)
      have HL4 := hide (HL3.out.below hb)
      clear hb
      obtain ⟨⟨x0, x1, x2⟩, -, hq1, -⟩ := HB3.out
      have hq0 : w.heap.size < w3.heap.size := by omega
      clear HB3 HL3 hq1
      rcases hN.out with h1 | ⟨h1, h2⟩ | ⟨q, h1, hq, p, v, hp, hv⟩
      · go_wp2_with fail
        go_ret
        exact ⟨rfl, HB4.out.2.2.2⟩
      · go_wp2_with fail
        go_ret
        exact ⟨rfl, HB4.out.2.2.2⟩
      · subst h1
        have HP := hide hp
        have HV := hide hv
        have hle : ¬ (P.length : Int) ≤ (q : Int) := by omega
        clear hp hv
        have hq2 : q + 1 ≤ c2 := by have := HCap.out.2.1; omega
        have hq3 : q + 1 ≤ c3 := by have := HCap.out.2.2; have := Hck.out.2.2.1; omega
        go_wp2_with fail
        clear x0 x1 x2
        obtain ⟨A, B, rfl, rfl, hX, hY⟩ : ∃ A B, o2 = some A ∧ o3 = some B ∧ Tap5 (w3.alloc (cL oa1 oa2 oa3 0 ca1 0 ca2 0 ca3 26)) (A.add (q * 5)) p ∧ (w3.alloc (cL oa1 oa2 oa3 0 ca1 0 ca2 0 ca3 26)).cell? (B.add q) = some (.int .i64 v) := by
          obtain ⟨p1, e1, p2, e2, p3, e3, e, a1, a2, a3, -⟩ := HL4.out.opened
          simp only [lg, Value.agg.injEq] at e
          injection e with e
          injection e with e4 e
          injection e with e5 e
          injection e with e6 e
          injection e5 with e9 _ e10
          injection e6 with e11 _ e12
          subst e9 e11
          obtain ⟨A, hA, hA'⟩ := a2 q p HP.out
          obtain ⟨B, hB, hB'⟩ := a3 q v HV.out
          exact ⟨A, B, hA, hB, hA', hB'⟩
        have HX := hide hX
        have HY := hide hY
        clear hX hY
        refine wp_region_reads (fun w' => BoxesW w w' o1 (some A) (some B) T.length c1 P.length c2 V.length c3 ⟨i, k, f, t, z, r⟩ ∧ Tap5 w' (A.add (q * 5)) p) [0, 1, 2, 3, 4, 5, 6, 7, 8, 9, 10, 11, 12, 13, 14, 15] 9 (by rfl) (by kernel_rfl) (by kernel_rfl) (by kernel_rfl) (fun c d v a w h => by cases d <;> exact h) ?_ ?_
        · exact ⟨HB4.out.on (Below.refl _ _).drew, HX.out.below (Below.refl _ _).drew HX.out.lt⟩
        refine wpPureH_step (.pointer (some ⟨w.heap.size, 0, none⟩)) rfl rfl (fun w' hS => ?_) ?_
        · obtain ⟨⟨⟨x0, x1, x2⟩, -, -, -⟩, ⟨z0, z1, z2, z3, z4⟩⟩ := hS
          go_simp
          try (intro h; omega)
        refine wpPureH_step (.slice o1 T.length c1) rfl rfl (fun w' hS => ?_) ?_
        · obtain ⟨⟨⟨x0, x1, x2⟩, -, -, -⟩, ⟨z0, z1, z2, z3, z4⟩⟩ := hS
          go_simp
          try (intro h; omega)
        refine wpPureH_step (.pointer (some ⟨w.heap.size, 1, none⟩)) rfl rfl (fun w' hS => ?_) ?_
        · obtain ⟨⟨⟨x0, x1, x2⟩, -, -, -⟩, ⟨z0, z1, z2, z3, z4⟩⟩ := hS
          go_simp
          try (intro h; omega)
        refine wpPureH_step (.slice (some A) P.length c2) rfl rfl (fun w' hS => ?_) ?_
        · obtain ⟨⟨⟨x0, x1, x2⟩, -, -, -⟩, ⟨z0, z1, z2, z3, z4⟩⟩ := hS
          go_simp
          try (intro h; omega)
        refine wpPureH_step (.int .i64 (q : Int)) rfl rfl (fun w' hS => ?_) ?_
        · obtain ⟨⟨⟨x0, x1, x2⟩, -, -, -⟩, ⟨z0, z1, z2, z3, z4⟩⟩ := hS
          go_simp
          try (intro h; omega)
        refine wpPureH_step (.slice (some A) q c2) rfl rfl (fun w' hS => ?_) ?_
        · obtain ⟨⟨⟨x0, x1, x2⟩, -, -, -⟩, ⟨z0, z1, z2, z3, z4⟩⟩ := hS
          go_simp
          try (intro h; omega)
        refine wpPureH_step (.pointer (some ⟨w.heap.size, 2, none⟩)) rfl rfl (fun w' hS => ?_) ?_
        · obtain ⟨⟨⟨x0, x1, x2⟩, -, -, -⟩, ⟨z0, z1, z2, z3, z4⟩⟩ := hS
          go_simp
          try (intro h; omega)
        refine wpPureH_step (.slice (some B) V.length c3) rfl rfl (fun w' hS => ?_) ?_
        · obtain ⟨⟨⟨x0, x1, x2⟩, -, -, -⟩, ⟨z0, z1, z2, z3, z4⟩⟩ := hS
          go_simp
          try (intro h; omega)
        refine wpPureH_step (.int .i64 (q : Int)) rfl rfl (fun w' hS => ?_) ?_
        · obtain ⟨⟨⟨x0, x1, x2⟩, -, -, -⟩, ⟨z0, z1, z2, z3, z4⟩⟩ := hS
          go_simp
          try (intro h; omega)
        refine wpPureH_step (.slice (some B) q c3) rfl rfl (fun w' hS => ?_) ?_
        · obtain ⟨⟨⟨x0, x1, x2⟩, -, -, -⟩, ⟨z0, z1, z2, z3, z4⟩⟩ := hS
          go_simp
          try (intro h; omega)
        refine wpPureH_step (lg o1 (some A) (some B) T.length c1 q c2 q c3) rfl rfl (fun w' hS => ?_) ?_
        · obtain ⟨⟨⟨x0, x1, x2⟩, -, -, -⟩, ⟨z0, z1, z2, z3, z4⟩⟩ := hS
          go_simp
          try (intro h; omega)
        refine wpPureH_step (.pointer (some ⟨w.heap.size, 1, none⟩)) rfl rfl (fun w' hS => ?_) ?_
        · obtain ⟨⟨⟨x0, x1, x2⟩, -, -, -⟩, ⟨z0, z1, z2, z3, z4⟩⟩ := hS
          go_simp
          try (intro h; omega)
        refine wpPureH_step (.slice (some A) P.length c2) rfl rfl (fun w' hS => ?_) ?_
        · obtain ⟨⟨⟨x0, x1, x2⟩, -, -, -⟩, ⟨z0, z1, z2, z3, z4⟩⟩ := hS
          go_simp
          try (intro h; omega)
        refine wpPureH_step (.int .i64 (q : Int)) rfl rfl (fun w' hS => ?_) ?_
        · obtain ⟨⟨⟨x0, x1, x2⟩, -, -, -⟩, ⟨z0, z1, z2, z3, z4⟩⟩ := hS
          go_simp
          try (intro h; omega)
        refine wpPureH_step (.pointer (some (A.add (q * 5)))) rfl rfl (fun w' hS => ?_) ?_
        · obtain ⟨⟨⟨x0, x1, x2⟩, -, -, -⟩, ⟨z0, z1, z2, z3, z4⟩⟩ := hS
          go_simp
          try (intro h; omega)
        refine wpPureH_step (tp p.a p.g p.s p.m p.z) rfl rfl (fun w' hS => ?_) ?_
        · obtain ⟨⟨⟨x0, x1, x2⟩, -, -, -⟩, ⟨z0, z1, z2, z3, z4⟩⟩ := hS
          go_simp
          try (intro h; omega)
        refine wpPureH_nil ?_
        have HBd := hide (HB4.out.on (Below.refl _ _).drew)
        have HLd := hide (HL4.out.below (Below.refl _ _).drew)
        have HXd := hide (HX.out.below (Below.refl _ _).drew HX.out.lt)
        generalize (w3.alloc (cL oa1 oa2 oa3 0 ca1 0 ca2 0 ca3 26)).drew = wd at *
        refine two_readyH (i := 16) (j := 21) (by kernel_rfl) rfl rfl rfl rfl (fun K hK => ?_) (fun K hK => ?_)
        · go_simp
          refine (enter_prefix HCk.out HP.out HV.out (HLd.out.take q (by omega) (by have := Hck.out.2.2.1; omega))).mono ?_
          rintro e wa ⟨⟨oe1, ce1, oe2, ce2, oe3, ce3, rfl, hx⟩, hba⟩
          have HXa := hide hx
          have HB0 := hide (HBd.out.on hba)
          have HL0x := hide (HLd.out.below hba)
          have HX0 := hide (HXd.out.below hba HXd.out.lt)
          clear hx hba HBd HLd HXd
          refine hK _ _ ⟨HB0.out, HX0.out⟩ ?_
          clear hK K
          refine takesH (fuel := 4) (by kernel_rfl) (fun c d v a w h => by cases d <;> exact h) ⟨HB0.out, HX0.out⟩ [17, 18, 19, 20] _ _ (by kernel_rfl) ?_
          refine wpPureH_step (.tuple #[lg oe1 oe2 oe3 T.length ce1 (q + 1) ce2 (q + 1) ce3, .int .i64 v, .int .i64 0]) rfl rfl (fun w' _ => by go_simp) ?_
          refine wpPureH_step (lg oe1 oe2 oe3 T.length ce1 (q + 1) ce2 (q + 1) ce3) rfl rfl (fun w' _ => by go_simp) ?_
          refine wpPureH_step (.int .i64 v) rfl rfl (fun w' _ => by go_simp) ?_
          refine wpPureH_step (.int .i64 0) rfl rfl (fun w' _ => by go_simp) ?_
          refine wpPureH_nil ?_
          refine one_readyH (i := 21) (by kernel_rfl) rfl rfl (fun K hK => ?_)
          go_simp
          have HBW := hide ((Below.refl wa.heap.size wa).alloc (Nat.le_refl _) (cL none none none 0 0 0 0 0 0 26))
          have HXb := hide (HXa.out.below HBW.out)
          have hrow : (wa.alloc (cL none none none 0 0 0 0 0 0 26)).heap[wa.heap.size]? = some (cL none none none 0 0 0 0 0 0 26) := heap_alloc_new' _ _ _ rfl
          refine hK _ _ ⟨HB0.out.on HBW.out, HX0.out.below HBW.out HX0.out.lt⟩ ?_
          clear hK K HXa
          generalize wa.alloc (cL none none none 0 0 0 0 0 0 26) = wb at *
          have r0 := cell_of_row wb _ 0 _ _ _ hrow
          have r1 := cell_of_row wb _ 1 _ _ _ hrow
          have r2 := cell_of_row wb _ 2 _ _ _ hrow
          have s0 := frozen_of_row wb _ 0 _ _ hrow
          have s1 := frozen_of_row wb _ 1 _ _ hrow
          have s2 := frozen_of_row wb _ 2 _ _ hrow
          simp at r0 r1 r2
          clear hrow
          refine one_readyH (i := 22) (by kernel_rfl) rfl rfl (fun K hK => ?_)
          go_simp
          have HG : Hid (Led3 (((wb.setCell ⟨wa.heap.size, 0, none⟩ (.slice oe1 T.length ce1)).setCell ⟨wa.heap.size, 1, none⟩ (.slice oe2 (q + 1) ce2)).setCell ⟨wa.heap.size, 2, none⟩ (.slice oe3 (q + 1) ce3)) (wa.heap.size) oe1 oe2 oe3 T.length ce1 (q + 1) ce2 (q + 1) ce3) := by
            refine hide ⟨?_, ?_, ?_⟩
            all_goals simp [go_sem, r0, r1, r2]
          have HXg : Hid (LedV (((wb.setCell ⟨wa.heap.size, 0, none⟩ (.slice oe1 T.length ce1)).setCell ⟨wa.heap.size, 1, none⟩ (.slice oe2 (q + 1) ce2)).setCell ⟨wa.heap.size, 2, none⟩ (.slice oe3 (q + 1) ce3)) (lg oe1 oe2 oe3 T.length ce1 (q + 1) ce2 (q + 1) ce3) T (P.take (q + 1)) (V.take (q + 1))) := by
            refine hide (((HXb.out.setSlice r0 _).setSlice (cell_other1 r1 (by simp)) _).setSlice (cell_other1 (cell_other1 r2 (by simp)) (by simp)) _)
          have hbg : Below wa.heap.size wa (((wb.setCell ⟨wa.heap.size, 0, none⟩ (.slice oe1 T.length ce1)).setCell ⟨wa.heap.size, 1, none⟩ (.slice oe2 (q + 1) ce2)).setCell ⟨wa.heap.size, 2, none⟩ (.slice oe3 (q + 1) ce3)) := ((HBW.out.setCell (by simp) _).setCell (by simp) _).setCell (by simp) _
          have HBg := hide (HB0.out.on hbg)
          have HLg := hide (HL0x.out.below hbg)
          have HXXg := hide (HX0.out.below hbg HX0.out.lt)
          clear hbg HXb
          refine hK _ _ ⟨HBg.out, HXXg.out⟩ ?_
          clear hK K r0 r1 r2 s0 s1 s2 HBW HB0 HL0x HX0
          generalize ((wb.setCell ⟨wa.heap.size, 0, none⟩ (.slice oe1 T.length ce1)).setCell ⟨wa.heap.size, 1, none⟩ (.slice oe2 (q + 1) ce2)).setCell ⟨wa.heap.size, 2, none⟩ (.slice oe3 (q + 1) ce3) = wg at *
          refine one_readyH (i := 23) (by kernel_rfl) rfl rfl (fun K hK => ?_)
          go_simp
          refine hK _ _ ⟨HBg.out, HXXg.out⟩ ?_
          clear hK K
          refine one_readyH (i := 24) (by kernel_rfl) rfl rfl (fun K hK => ?_)
          go_simp
          refine hK _ _ ⟨HBg.out, HXXg.out⟩ ?_
          clear hK K
          refine wpAnyH_done (by kernel_rfl) ?_ _
          go_wp2_with fail
          clear HXXg
          obtain ⟨⟨x0, x1, x2⟩, -, -, hB⟩ := HBg.out
          obtain ⟨g0, g1, g2⟩ := HG.out
          have y0 := led_int HLg.out HV.out
          have k0 := cell_regrown x0
          have k1 := cell_regrown x1
          have k2 := cell_regrown x2
          have l0 := cell_regrown g0
          have l1 := cell_regrown g1
          have l2 := cell_regrown g2
          have m0 := cell_regrown y0
          have cS : ∀ d os, Calls Try.prog 14 #[lg oe1 oe2 oe3 T.length ce1 (q + 1) ce2 (q + 1) ce3, lg o1 (some A) (some B) T.length c1 (q + 1) c2 (q + 1) c3] (Sort.grow (redrawn wg d) os) fun e w'' => e = .returned (.bool true) ∧ ∃ p : Regrown, w'' = Sort.grow (redrawn wg p.d) p.os :=
            fun d os => Calls.regrown_of (same_ledV (HXg.out.below (below_regrown wg d os)) ((HLg.out.take (q + 1) (by omega) (by have := Hck.out.2.2.1; omega)).below (below_regrown wg d os)) (by omega) (by rw [List.length_take]; omega) (by have := Hck.out.2.2.1; rw [List.length_take]; omega))
          clear x0 x1 x2 g0 g1 g2 y0 HBg HG HLg HXg
          have hqV : q < V.length := by have := Hck.out.2.2.1; omega
          have hqVi : (q : Int) < (V.length : Int) := by omega
          have hqc2 : (q : Int) + 1 ≤ (c2 : Int) := by omega
          have hqn : ((q : Int) + 1).toNat = q + 1 := by omega
          have hqs : 0 ≤ (q : Int) + 1 := by omega
          have hqw : IntKind.i64.wrap ((q : Int) + 1) = (q : Int) + 1 := by rw [IntKind.wrap_i64]; omega
          have hqc3 : (q : Int) + 1 ≤ (c3 : Int) := by omega
          refine wp_region_quiet_below (by kernel_rfl) (by kernel_rfl) ?_
          repeat (quiet_step (exact cS _ _))
          refine wpQuiet_nil ?_
          intro _ hw'
          obtain ⟨⟨dq, osq⟩, hw''⟩ := hw'
          subst hw''
          go_wp2
          go_ret
          exact ⟨by first | rfl | simp, hB.trans ((below_regrown wg dq osq).mono hB.size)⟩
        · go_simp
          have HBW0 := hide ((Below.refl wd.heap.size wd).alloc (Nat.le_refl _) (cL none none none 0 0 0 0 0 0 26))
          have hrow0 : (wd.alloc (cL none none none 0 0 0 0 0 0 26)).heap[wd.heap.size]? = some (cL none none none 0 0 0 0 0 0 26) := heap_alloc_new' _ _ _ rfl
          have hsz : wd.heap.size < (wd.alloc (cL none none none 0 0 0 0 0 0 26)).heap.size := by simp
          refine hK _ _ ⟨HBd.out.on HBW0.out, HXd.out.below HBW0.out HXd.out.lt⟩ ?_
          clear hK K
          generalize wd.alloc (cL none none none 0 0 0 0 0 0 26) = wb at *
          refine one_readyH (i := 16) (by kernel_rfl) rfl rfl (fun K hK => ?_)
          go_simp
          refine (enter_prefix HCk.out HP.out HV.out ((HLd.out.below HBW0.out).take q (by omega) (by have := Hck.out.2.2.1; omega))).mono ?_
          rintro e wc ⟨⟨oe1, ce1, oe2, ce2, oe3, ce3, rfl, hx⟩, hbc⟩
          have HXb := hide hx
          have hrow : wc.heap[wd.heap.size]? = some (cL none none none 0 0 0 0 0 0 26) := by rw [hbc.block _ hsz]; exact hrow0
          have HBW := hide (HBW0.out.trans (hbc.mono (by omega)))
          have HB0 := HBd
          have HL0x := HLd
          have HX0 := HXd
          clear hx hbc hrow0 hsz HBW0 HBd HLd HXd
          refine hK _ _ ⟨HB0.out.on HBW.out, HX0.out.below HBW.out HX0.out.lt⟩ ?_
          clear hK K
          refine takesH (fuel := 3) (by kernel_rfl) (fun c d v a w h => by cases d <;> exact h) ⟨HB0.out.on HBW.out, HX0.out.below HBW.out HX0.out.lt⟩ [17, 18, 19, 20] _ _ (by kernel_rfl) ?_
          refine wpPureH_step (.tuple #[lg oe1 oe2 oe3 T.length ce1 (q + 1) ce2 (q + 1) ce3, .int .i64 v, .int .i64 0]) rfl rfl (fun w' _ => by go_simp) ?_
          refine wpPureH_step (lg oe1 oe2 oe3 T.length ce1 (q + 1) ce2 (q + 1) ce3) rfl rfl (fun w' _ => by go_simp) ?_
          refine wpPureH_step (.int .i64 v) rfl rfl (fun w' _ => by go_simp) ?_
          refine wpPureH_step (.int .i64 0) rfl rfl (fun w' _ => by go_simp) ?_
          refine wpPureH_nil ?_
          have r0 := cell_of_row wc _ 0 _ _ _ hrow
          have r1 := cell_of_row wc _ 1 _ _ _ hrow
          have r2 := cell_of_row wc _ 2 _ _ _ hrow
          have s0 := frozen_of_row wc _ 0 _ _ hrow
          have s1 := frozen_of_row wc _ 1 _ _ hrow
          have s2 := frozen_of_row wc _ 2 _ _ hrow
          simp at r0 r1 r2
          clear hrow
          refine one_readyH (i := 22) (by kernel_rfl) rfl rfl (fun K hK => ?_)
          go_simp
          have HG : Hid (Led3 (((wc.setCell ⟨wd.heap.size, 0, none⟩ (.slice oe1 T.length ce1)).setCell ⟨wd.heap.size, 1, none⟩ (.slice oe2 (q + 1) ce2)).setCell ⟨wd.heap.size, 2, none⟩ (.slice oe3 (q + 1) ce3)) (wd.heap.size) oe1 oe2 oe3 T.length ce1 (q + 1) ce2 (q + 1) ce3) := by
            refine hide ⟨?_, ?_, ?_⟩
            all_goals simp [go_sem, r0, r1, r2]
          have HXg : Hid (LedV (((wc.setCell ⟨wd.heap.size, 0, none⟩ (.slice oe1 T.length ce1)).setCell ⟨wd.heap.size, 1, none⟩ (.slice oe2 (q + 1) ce2)).setCell ⟨wd.heap.size, 2, none⟩ (.slice oe3 (q + 1) ce3)) (lg oe1 oe2 oe3 T.length ce1 (q + 1) ce2 (q + 1) ce3) T (P.take (q + 1)) (V.take (q + 1))) := by
            refine hide (((HXb.out.setSlice r0 _).setSlice (cell_other1 r1 (by simp)) _).setSlice (cell_other1 (cell_other1 r2 (by simp)) (by simp)) _)
          have hbg : Below wd.heap.size wd (((wc.setCell ⟨wd.heap.size, 0, none⟩ (.slice oe1 T.length ce1)).setCell ⟨wd.heap.size, 1, none⟩ (.slice oe2 (q + 1) ce2)).setCell ⟨wd.heap.size, 2, none⟩ (.slice oe3 (q + 1) ce3)) := ((HBW.out.setCell (by simp) _).setCell (by simp) _).setCell (by simp) _
          have HBg := hide (HB0.out.on hbg)
          have HLg := hide (HL0x.out.below hbg)
          have HXXg := hide (HX0.out.below hbg HX0.out.lt)
          clear hbg HXb
          refine hK _ _ ⟨HBg.out, HXXg.out⟩ ?_
          clear hK K r0 r1 r2 s0 s1 s2 HBW HB0 HL0x HX0
          generalize ((wc.setCell ⟨wd.heap.size, 0, none⟩ (.slice oe1 T.length ce1)).setCell ⟨wd.heap.size, 1, none⟩ (.slice oe2 (q + 1) ce2)).setCell ⟨wd.heap.size, 2, none⟩ (.slice oe3 (q + 1) ce3) = wg at *
          refine one_readyH (i := 23) (by kernel_rfl) rfl rfl (fun K hK => ?_)
          go_simp
          refine hK _ _ ⟨HBg.out, HXXg.out⟩ ?_
          clear hK K
          refine one_readyH (i := 24) (by kernel_rfl) rfl rfl (fun K hK => ?_)
          go_simp
          refine hK _ _ ⟨HBg.out, HXXg.out⟩ ?_
          clear hK K
          refine wpAnyH_done (by kernel_rfl) ?_ _
          go_wp2_with fail
          clear HXXg
          obtain ⟨⟨x0, x1, x2⟩, -, -, hB⟩ := HBg.out
          obtain ⟨g0, g1, g2⟩ := HG.out
          have y0 := led_int HLg.out HV.out
          have k0 := cell_regrown x0
          have k1 := cell_regrown x1
          have k2 := cell_regrown x2
          have l0 := cell_regrown g0
          have l1 := cell_regrown g1
          have l2 := cell_regrown g2
          have m0 := cell_regrown y0
          have cS : ∀ d os, Calls Try.prog 14 #[lg oe1 oe2 oe3 T.length ce1 (q + 1) ce2 (q + 1) ce3, lg o1 (some A) (some B) T.length c1 (q + 1) c2 (q + 1) c3] (Sort.grow (redrawn wg d) os) fun e w'' => e = .returned (.bool true) ∧ ∃ p : Regrown, w'' = Sort.grow (redrawn wg p.d) p.os :=
            fun d os => Calls.regrown_of (same_ledV (HXg.out.below (below_regrown wg d os)) ((HLg.out.take (q + 1) (by omega) (by have := Hck.out.2.2.1; omega)).below (below_regrown wg d os)) (by omega) (by rw [List.length_take]; omega) (by have := Hck.out.2.2.1; rw [List.length_take]; omega))
          clear x0 x1 x2 g0 g1 g2 y0 HBg HG HLg HXg
          have hqV : q < V.length := by have := Hck.out.2.2.1; omega
          have hqVi : (q : Int) < (V.length : Int) := by omega
          have hqc2 : (q : Int) + 1 ≤ (c2 : Int) := by omega
          have hqn : ((q : Int) + 1).toNat = q + 1 := by omega
          have hqs : 0 ≤ (q : Int) + 1 := by omega
          have hqw : IntKind.i64.wrap ((q : Int) + 1) = (q : Int) + 1 := by rw [IntKind.wrap_i64]; omega
          have hqc3 : (q : Int) + 1 ≤ (c3 : Int) := by omega
          refine wp_region_quiet_below (by kernel_rfl) (by kernel_rfl) ?_
          repeat (quiet_step (exact cS _ _))
          refine wpQuiet_nil ?_
          intro _ hw'
          obtain ⟨⟨dq, osq⟩, hw''⟩ := hw'
          subst hw''
          go_wp2
          go_ret
          exact ⟨by first | rfl | simp, hB.trans ((below_regrown wg dq osq).mono hB.size)⟩
  · have hC' : (chkL T P V != 0) = true := by simpa using hC
    clear hC hl
    generalize chkL T P V = x at *
    go_wp2_with fail
    go_ret
    exact ⟨rfl, HB2.out.2.2.2⟩
end Go.Proofs.Ytcakfmpckbmdeac
