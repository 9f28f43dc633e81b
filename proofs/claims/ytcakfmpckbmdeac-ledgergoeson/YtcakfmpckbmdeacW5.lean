/-
  The walk of LedgerGoesOn.
-/
import Derived.Test.YtcakfmpckbmdeacW2
import Derived.Test.YtcakfmpckbmdeacM3
namespace Go.Proofs.Ytcakfmpckbmdeac
open Go.RowKit

set_option maxHeartbeats 6400000 in
set_option maxRecDepth 100000 in
theorem ledgerGoesOn_walk (T : List TK) (P : List TP) (V : List Int) (a g s m z l : Int) (o1 o2 o3 : Option Addr) (c1 c2 c3 : Nat) (w : World) (h : LedV w (lg o1 o2 o3 T.length c1 P.length c2 V.length c3) T P V) (hl : LensOk T P V) :
    Calls Try.prog 4 #[lg o1 o2 o3 T.length c1 P.length c2 V.length c3, tp a g s m z, .int .i64 l] w fun e w' => e = .returned (.bool true) ∧ Below w.heap.size w w' := by
  have HL0 := hide h
  have HE := hide (fun W (h : LedV W (lg o1 o2 o3 T.length c1 P.length c2 V.length c3) T P V) => enterVv h hl a g s m z)
  clear h
  by_cases hE : (enterV T P V ⟨a, g, s, m, z⟩).2 = 0
  · by_cases hD : (enterV T P V ⟨a, g, s, m, z⟩).1 = 1 ∧ 0 ≤ l ∧ l < 60 ∧ s < 99
    · obtain ⟨hv, h0, h60, hs⟩ := hD
      have hE' : enterV T P V ⟨a, g, s, m, z⟩ = (1, 0) := Prod.ext hv hE
      have hways := goesOn_ways hE' h0 h60 hs
      simp only [] at hways
      have hr := enter_right hE
      have hck := chkL_right hr.1
      obtain ⟨-, -, ⟨s1, s2⟩, ⟨m1, m2⟩, -⟩ := chkP_right (unf_has hr.2.1).1
      simp only [] at s1 s2 m1 m2
      have hlens : LensOk T (P ++ [(⟨a, g, s, m, z⟩ : TP)]) (V ++ [1]) := by simp [LensOk]; omega
      have hlens2 : LensOk T (P ++ [(⟨a, g, s, m, z⟩ : TP)] ++ [(⟨a, g, s + 1, m + l, z⟩ : TP)]) (V ++ [1] ++ [2]) := by simp [LensOk]; omega
      have HLens := hide hlens
      have HLens2 := hide hlens2
      have HWays := hide hways
      rw [hE'] at HE
      simp only [if_true] at HE
      clear hr hck hl hE hv hE' hways hlens hlens2
      go_enter Try.func4, Try.ntmps4
      go_wp2_with fail
      refine (HE.out _ (HL0.out.below ?_)).mono ?_
      · repeat (first | with_reducible exact Below.refl _ _ | with_reducible refine Below.alloc ?_ (by simp; try omega) _)
      rintro e w1 ⟨⟨va, rfl, hva⟩, hb1⟩
      obtain ⟨oa1, ca1, oa2, ca2, oa3, ca3, rfl, hva'⟩ := hva.parts
      simp only [List.length_append, List.length_singleton] at hva' ⊢
      have HA := hide hva'
      have HB1 := hide (boxesB_of _ _ _ _ _ _ _ _ _ _ _ _ _ _ _ _ _ _ hb1)
      clear hb1 hva hva' HE
      go_wp2_with fail
      have hb := (Below.refl w1.heap.size w1).alloc (Nat.le_refl _) (cL oa1 oa2 oa3 T.length ca1 (P.length + 1) ca2 (V.length + 1) ca3 26)
      have HL5 : Hid (Led3 (w1.alloc (cL oa1 oa2 oa3 T.length ca1 (P.length + 1) ca2 (V.length + 1) ca3 26)) w1.heap.size oa1 oa2 oa3 T.length ca1 (P.length + 1) ca2 (V.length + 1) ca3) := hide ⟨by simp [go_sem], by simp [go_sem], by simp [go_sem]⟩
      have HA1 := hide (HA.out.below hb)
      have HB2 := hide (HB1.out.on hb)
      clear HA HB1 hb
      generalize w1.alloc (cL oa1 oa2 oa3 T.length ca1 (P.length + 1) ca2 (V.length + 1) ca3 26) = w2 at *
      refine (ledgerBegun_any _).mono ?_
      rintro e w3 ⟨rfl, hb3⟩
      have HA3 := hide (HA1.out.below hb3)
      have HB3 := hide (HB2.out.on hb3)
      have HL3 := hide (HL5.out.below hb3 HL5.out.lt)
      clear hb3 HA1 HB2 HL5
      obtain ⟨⟨x0, x1, x2⟩, ⟨y0, y1, y2, y3, y4⟩, hq, hB⟩ := HB3.out
      obtain ⟨z0, z1, z2⟩ := HL3.out
      have hz := HL3.out.lt
      simp only [Nat.zero_add] at y0 y1 y2 y3 y4
      have h0' : ¬ l < 0 := by omega
      have h60' : ¬ 60 ≤ l := by omega
      have hs' : ¬ 99 ≤ s := by omega
      go_wp2_with fail
      go_region
      go_wp2_with fail
      have hb4 := ((Below.refl w3.heap.size w3).alloc (Nat.le_refl _) (cP a g (s + 1) (m + l) z 38)).drew
      have HA4 := hide (HA3.out.below hb4)
      have HB4 := hide (HB3.out.on hb4)
      have HL4 := hide (HL3.out.below hb4 HL3.out.lt)
      clear hb4 HA3 HB3 HL3 x0 x1 x2 y0 y1 y2 y3 y4 z0 z1 z2 hz hq hB
      generalize (w3.alloc (cP a g (s + 1) (m + l) z 38)).drew = w4 at *
      refine (enterVv HA4.out HLens.out a g (s + 1) (m + l) z).mono ?_
      rintro e w5 ⟨⟨vb, rfl, hvb⟩, hb5⟩
      have HA5 := hide (HA4.out.below hb5)
      have HB5 := hide (HB4.out.on hb5)
      have HL5 := hide (HL4.out.below hb5 HL4.out.lt)
      clear hb5 HA4 HB4 HL4
      rcases HWays.out with hbad | ⟨hok, c, hr1, hr2⟩
      · clear HWays
        generalize enterV T (P ++ [(⟨a, g, s, m, z⟩ : TP)]) (V ++ [1]) ⟨a, g, s + 1, m + l, z⟩ = E2 at *
        obtain ⟨vv, f⟩ := E2
        simp only [] at hbad hvb ⊢
        have hf : ¬ f = 0 := by omega
        rw [if_neg hf, if_neg hf, if_neg hf] at hvb
        clear hf
        obtain ⟨oe1, ce1, oe2, ce2, oe3, ce3, rfl, -⟩ := hvb.parts
        simp only [List.length_nil]
        clear hvb
        rcases hbad with rfl | rfl | rfl | rfl
        all_goals
          go_wp2_with fail
          go_ret
          exact ⟨rfl, HB5.out.2.2.2.alloc HB5.out.2.2.2.size _⟩
      · rw [hok] at hvb ⊢
        simp only [if_true] at hvb
        obtain ⟨oe1, ce1, oe2, ce2, oe3, ce3, rfl, hvb'⟩ := hvb.parts
        simp only [List.length_append, List.length_singleton] at hvb' ⊢
        have HAb := hide hvb'
        have HR1 := hide hr1
        have HR2 := hide hr2
        clear hvb hvb' hok hr1 hr2 HWays
        obtain ⟨⟨x0, x1, x2⟩, ⟨y0, y1, y2, y3, y4⟩, hq, hB⟩ := HB5.out
        obtain ⟨z0, z1, z2⟩ := HL5.out
        have hz := HL5.out.lt
        have hq0 : w.heap.size < w5.heap.size := by omega
        simp only [Nat.zero_add] at y0 y1 y2 y3 y4
        go_wp2_with fail
        have hb6 := (Below.refl w5.heap.size w5).alloc (Nat.le_refl _) (cL oe1 oe2 oe3 T.length ce1 (P.length + 1 + 1) ce2 (V.length + 1 + 1) ce3 26)
        have HL11 : Hid (Led3 (w5.alloc (cL oe1 oe2 oe3 T.length ce1 (P.length + 1 + 1) ce2 (V.length + 1 + 1) ce3 26)) w5.heap.size oe1 oe2 oe3 T.length ce1 (P.length + 1 + 1) ce2 (V.length + 1 + 1) ce3) := hide ⟨by simp [go_sem], by simp [go_sem], by simp [go_sem]⟩
        have HA6 := hide (HA5.out.below hb6)
        have HB6 := hide (HB5.out.on hb6)
        have HAb6 := hide (HAb.out.below hb6)
        clear hb6 HA5 HB5 HL5 HAb x0 x1 x2 y0 y1 y2 y3 y4 z0 z1 z2 hz hq hB hq0
        generalize w5.alloc (cL oe1 oe2 oe3 T.length ce1 (P.length + 1 + 1) ce2 (V.length + 1 + 1) ce3 26) = w6 at *
        refine (ridesVv HA6.out HLens.out a).mono ?_
        rintro e w7 ⟨rfl, hb7⟩
        rw [HR1.out]
        have HB7 := hide (HB6.out.on hb7)
        have HAb7 := hide (HAb6.out.below hb7)
        have HL7 := hide (HL11.out.below hb7 HL11.out.lt)
        clear hb7 HA6 HB6 HAb6 HL11 HR1
        obtain ⟨⟨x0, x1, x2⟩, ⟨y0, y1, y2, y3, y4⟩, -, -⟩ := HB7.out
        obtain ⟨z0, z1, z2⟩ := HL7.out
        simp only [Nat.zero_add] at y0 y1 y2 y3 y4
        go_wp2_with fail
        refine (ridesVv HAb7.out HLens2.out a).mono ?_
        rintro e w8 ⟨rfl, hb8⟩
        rw [HR2.out]
        have HB8 := hide (HB7.out.on hb8)
        clear hb8 HB7 HAb7 HL7 HR2 x0 x1 x2 y0 y1 y2 y3 y4 z0 z1 z2
        go_wp2_with fail
        go_ret
        exact ⟨by simp, HB8.out.2.2.2⟩
    · have hD' : (enterV T P V ⟨a, g, s, m, z⟩).1 ≠ 1 ∨ ((enterV T P V ⟨a, g, s, m, z⟩).1 = 1 ∧ l < 0) ∨ ((enterV T P V ⟨a, g, s, m, z⟩).1 = 1 ∧ ¬ l < 0 ∧ 60 ≤ l) ∨ ((enterV T P V ⟨a, g, s, m, z⟩).1 = 1 ∧ ¬ l < 0 ∧ ¬ 60 ≤ l ∧ 99 ≤ s) := by omega
      clear hD hl
      generalize enterV T P V ⟨a, g, s, m, z⟩ = E at *
      obtain ⟨v, e⟩ := E
      simp only [] at hE hD' HE
      subst hE
      simp only [if_true] at HE
      have hD2 : (v != 1) = true ∨ (v = 1 ∧ l < 0) ∨ (v = 1 ∧ ¬ l < 0 ∧ 60 ≤ l) ∨ (v = 1 ∧ ¬ l < 0 ∧ ¬ 60 ≤ l ∧ 99 ≤ s) := by
        rcases hD' with h | h
        · exact Or.inl (by simpa using h)
        · exact Or.inr h
      clear hD'
      rcases hD2 with h1 | ⟨rfl, h1⟩ | ⟨rfl, h1, h2⟩ | ⟨rfl, h1, h2, h3⟩
      all_goals
        go_enter Try.func4, Try.ntmps4
        go_wp2_with fail
        refine (HE.out _ (HL0.out.below ?_)).mono ?_
        · repeat (first | with_reducible exact Below.refl _ _ | with_reducible refine Below.alloc ?_ (by simp; try omega) _)
        rintro e w1 ⟨⟨va, rfl, hva⟩, hb1⟩
        obtain ⟨oa1, ca1, oa2, ca2, oa3, ca3, rfl, -⟩ := hva.parts
        simp only [List.length_append, List.length_singleton]
        have HB1 := hide (boxesB_of _ _ _ _ _ _ _ _ _ _ _ _ _ _ _ _ _ _ hb1)
        clear hb1 hva
        go_wp2_with fail
        have HB2 := hide (HB1.out.on ((Below.refl w1.heap.size w1).alloc (Nat.le_refl _) (cL oa1 oa2 oa3 T.length ca1 (P.length + 1) ca2 (V.length + 1) ca3 26)))
        clear HB1
        generalize w1.alloc (cL oa1 oa2 oa3 T.length ca1 (P.length + 1) ca2 (V.length + 1) ca3 26) = w2 at *
        refine (ledgerBegun_any _).mono ?_
        rintro e w3 ⟨rfl, hb3⟩
        have HB3 := hide (HB2.out.on hb3)
        clear hb3 HB2
        obtain ⟨⟨x0, x1, x2⟩, ⟨y0, y1, y2, y3, y4⟩, -, -⟩ := HB3.out
        simp only [Nat.zero_add] at y0 y1 y2 y3 y4
        go_wp2_with fail
        go_ret
        exact ⟨rfl, HB3.out.2.2.2⟩
  · clear hl
    generalize enterV T P V ⟨a, g, s, m, z⟩ = E at *
    obtain ⟨v, e⟩ := E
    simp only [] at hE
    rw [if_neg hE, if_neg hE, if_neg hE] at HE
    have hE' : (e != 0) = true := by simpa using hE
    have hE'' : (e == 0) = false := by simpa using hE
    clear hE
    go_enter Try.func4, Try.ntmps4
    go_wp2_with fail
    refine (HE.out _ (HL0.out.below ?_)).mono ?_
    · repeat (first | with_reducible exact Below.refl _ _ | with_reducible refine Below.alloc ?_ (by simp; try omega) _)
    rintro e w1 ⟨⟨va, rfl, hva⟩, hb1⟩
    obtain ⟨oa1, ca1, oa2, ca2, oa3, ca3, rfl, -⟩ := hva.parts
    simp only [List.length_nil]
    have HB1 := hide (boxesB_of _ _ _ _ _ _ _ _ _ _ _ _ _ _ _ _ _ _ hb1)
    clear hb1 hva
    go_wp2_with fail
    have hb := (Below.refl w1.heap.size w1).alloc (Nat.le_refl _) (cL oa1 oa2 oa3 0 ca1 0 ca2 0 ca3 26)
    have HL1 : Hid (Led3 (w1.alloc (cL oa1 oa2 oa3 0 ca1 0 ca2 0 ca3 26)) w1.heap.size oa1 oa2 oa3 0 ca1 0 ca2 0 ca3) := hide ⟨by simp [go_sem], by simp [go_sem], by simp [go_sem]⟩
    have HB2 := hide (HB1.out.on hb)
    clear HB1 hb
    generalize w1.alloc (cL oa1 oa2 oa3 0 ca1 0 ca2 0 ca3 26) = w2 at *
    refine (ledgerBegun_any _).mono ?_
    rintro e w3 ⟨rfl, hb3⟩
    have HB3 := hide (HB2.out.on hb3)
    have HL3 := hide (HL1.out.below hb3 HL1.out.lt)
    clear hb3 HB2 HL1
    obtain ⟨z0, z1, z2⟩ := HL3.out
    go_wp2_with fail
    go_ret
    exact ⟨rfl, HB3.out.2.2.2⟩
end Go.Proofs.Ytcakfmpckbmdeac
