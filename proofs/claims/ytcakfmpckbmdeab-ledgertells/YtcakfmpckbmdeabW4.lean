/-
  The walk of LedgerRides.
-/
import Derived.Test.YtcakfmpckbmdeabW2
import Derived.Test.YtcakfmpckbmdeabW3
import Derived.Test.YtcakfmpckbmdeabM2
import Derived.Test.YtcakfmpckbmdeabP7
namespace Go.Proofs.Ytcakfmpckbmdeab
open Go.RowKit

theorem enter_err {T : List TK} {P : List TP} {V : List Int} {p : TP} (h : (enterV T P V p).2 ≠ 0) : (enterV T P V p).1 = 0 ∨ (enterV T P V p).1 = 3 := by
  by_cases h1 : chkL T P V = 0
  · by_cases h2 : unf T P p = 0
    · cases h3 : earlyB P p.m
      · by_cases h4 : (judB T (P.zip V) p).2 = 0
        · by_cases h5 : P.length = 60
          · left; simp [enterV, h1, h2, h3, h4, h5]
          · simp [enterV, h1, h2, h3, h4, h5] at h
        · have e : enterV T P V p = judB T (P.zip V) p := by simp [enterV, h1, h2, h3, h4]
          rw [e]
          rcases judgeV_ways (T.getD (posT T p.a) tk0).i (T.getD (posT T p.a) tk0).k (T.getD (posT T p.a) tk0).f (T.getD (posT T p.a) tk0).t (T.getD (posT T p.a) tk0).z (T.getD (posT T p.a) tk0).r (ridesL (P.zip V) p.a).length p (ridesL (P.zip V) p.a) with ⟨_, h⟩ | ⟨h, _⟩
          · exact h
          · exact absurd h h4
      · left; simp [enterV, h1, h2, h3]
    · left; simp [enterV, h1, h2]
  · left; simp [enterV, h1]

theorem LedV.at {w : World} {o1 o2 o3 : Option Addr} {n1 c1 n2 c2 n3 c3 : Nat} {T : List TK} {P : List TP} {V : List Int} (h : LedV w (lg o1 o2 o3 n1 c1 n2 c2 n3 c3) T P V) : TiksAt w o1 T ∧ TapsAt w o2 P ∧ IntsAt w o3 V ∧ T.length ≤ c1 ∧ P.length ≤ c2 ∧ V.length ≤ c3 := by
  obtain ⟨v1, v2, v3, e, ⟨q1, p1, rfl, a1, a2, -⟩, ⟨q2, p2, rfl, b1, b2, -⟩, ⟨q3, p3, rfl, d1, d2, -⟩⟩ := h
  simp only [Value.agg.injEq, Array.mk.injEq, List.cons.injEq, Value.slice.injEq, and_true] at e
  obtain ⟨⟨rfl, -, rfl⟩, ⟨rfl, -, rfl⟩, rfl, -, rfl⟩ := e
  exact ⟨a1, b1, d1, a2, b2, d2⟩

set_option maxHeartbeats 6400000 in
set_option maxRecDepth 100000 in
theorem ledgerRides_walk (T : List TK) (P : List TP) (V : List Int) (a g s m z : Int) (o1 o2 o3 : Option Addr) (c1 c2 c3 : Nat) (w : World) (h : LedV w (lg o1 o2 o3 T.length c1 P.length c2 V.length c3) T P V) (hl : LensOk T P V) :
    Calls Try.prog 8 #[lg o1 o2 o3 T.length c1 P.length c2 V.length c3, tp a g s m z] w fun e w' => e = .returned (.bool true) ∧ Below w.heap.size w w' := by
  have HL0 := hide h
  have HE := hide (fun W (h : LedV W (lg o1 o2 o3 T.length c1 P.length c2 V.length c3) T P V) => enterVv h hl a g s m z)
  have HRl := hide (fun W (h : LedV W (lg o1 o2 o3 T.length c1 P.length c2 V.length c3) T P V) id => ridesVv h hl id)
  clear h
  have hl2 := hl.2.1
  have hl1 := hl.1
  by_cases hE : (enterV T P V ⟨a, g, s, m, z⟩).2 = 0
  · have hr := enter_right hE
    have hck := chkL_right hr.1
    have HCa := hide (enter_chk hE)
    have HRd := hide (fun x (hx : x ∈ T) => enter_rides hE hx)
    have hlp : P.length < 60 := hr.2.2.2.2.1
    have hlt12 : T.length ≤ 12 := hck.1
    have hv1 : P.length < V.length + 1 := by omega
    have hv2 : V.length < 60 := by omega
    have hcmp : ((V.length : Int) + 1 != (P.length : Int) + 1) = false := by have := hck.2.2.1; simp; omega
    have HLV := hide hck.2.2.1
    clear hr hck hl
    generalize enterV T P V ⟨a, g, s, m, z⟩ = E at *
    obtain ⟨v, e⟩ := E
    simp only [] at hE HRd HCa
    subst hE
    simp only [if_true] at HE
    go_enter Try.func8, Try.ntmps8
    go_wp2_with fail
    refine (HE.out _ (HL0.out.below ?_)).mono ?_
    · repeat (first | with_reducible exact Below.refl _ _ | with_reducible refine Below.alloc ?_ (by simp; try omega) _)
    rintro e w1 ⟨⟨va, rfl, hva⟩, hb1⟩
    obtain ⟨oa1, ca1, oa2, ca2, oa3, ca3, rfl, hva'⟩ := hva.parts
    simp only [List.length_append, List.length_singleton] at hva' ⊢
    have HA := hide hva'
    have HB1 := hide (boxesB_of _ _ _ _ _ _ _ _ _ _ _ _ _ _ _ _ _ _ hb1)
    clear hb1 hva hva' HE
    go_wp2_with fail
    have hb := (Below.refl w1.heap.size w1).alloc (Nat.le_refl _) (cL oa1 oa2 oa3 T.length ca1 (P.length + 1) ca2 (V.length + 1) ca3 43)
    have HL5 : Hid (Led3 (w1.alloc (cL oa1 oa2 oa3 T.length ca1 (P.length + 1) ca2 (V.length + 1) ca3 43)) w1.heap.size oa1 oa2 oa3 T.length ca1 (P.length + 1) ca2 (V.length + 1) ca3) := hide ⟨by simp [go_sem], by simp [go_sem], by simp [go_sem]⟩
    have HA1 := hide (HA.out.below hb)
    have HB2 := hide (HB1.out.on hb)
    clear HA HB1 hb
    generalize w1.alloc (cL oa1 oa2 oa3 T.length ca1 (P.length + 1) ca2 (V.length + 1) ca3 43) = w2 at *
    refine (ledgerBegun_any _).mono ?_
    rintro e w3 ⟨rfl, hb3⟩
    have HA3 := hide (HA1.out.below hb3)
    have HB3 := hide (HB2.out.on hb3)
    have HL3 := hide (HL5.out.below hb3 HL5.out.lt)
    clear hb3 HA1 HB2 HL5
    obtain ⟨⟨x0, x1, x2⟩, ⟨y0, y1, y2, y3, y4⟩, -, hB⟩ := HB3.out
    obtain ⟨z0, z1, z2⟩ := HL3.out
    simp only [Nat.zero_add] at y0 y1 y2 y3 y4
    go_wp2_with fail
    obtain ⟨hTa, hPa, hVa, -, hca2, hca3⟩ := HA3.out.at
    rw [List.length_append, List.length_singleton] at hca2 hca3
    obtain ⟨A, rfl, u0, u1, u2, u3, u4⟩ := hPa P.length ⟨a, g, s, m, z⟩ (by simp)
    obtain ⟨A3, rfl, t0⟩ := hVa P.length v (by rw [← HLV.out]; simp)
    have hPl : TapsAt w3 (some A) P := by
      have := hPa.take P.length
      simpa using this
    have HPl := hide hPl
    have hPo := (HL0.out.below hB).at.2.1
    have HPo := hide hPo
    have hca2' : P.length ≤ ca2 := by omega
    clear hTa hPa hVa hPl hPo
    have hk : chkL T (P ++ [(⟨a, g, s, m, z⟩ : TP)]) (V ++ [v]) = 0 := HCa.out
    have hlens : LensOk T (P ++ [(⟨a, g, s, m, z⟩ : TP)]) (V ++ [v]) := by simp [LensOk]; omega
    have cC : ∀ d os, Calls Try.prog 27 #[lg oa1 (some A) (some A3) T.length ca1 (P.length + 1) ca2 (V.length + 1) ca3] (Sort.grow (redrawn w3 d) os) fun e w'' => e = .returned (.int .i64 0) ∧ ∃ p : Regrown, w'' = Sort.grow (redrawn w3 p.d) p.os :=
      fun d os => Calls.regrown_of (by have h := checkV (HA3.out.below (below_regrown w3 d os)) hlens; rw [hk] at h; exact h)
    have cS : ∀ d os, Calls Try.prog 29 #[.slice (some A) P.length ca2, .slice o2 P.length c2] (Sort.grow (redrawn w3 d) os) fun e w'' => e = .returned (.bool true) ∧ ∃ p : Regrown, w'' = Sort.grow (redrawn w3 p.d) p.os :=
      fun d os => Calls.regrown_of (sameTaps_same P (some A) o2 ca2 c2 _ (HPl.out.below (below_regrown w3 d os)) (HPo.out.below (below_regrown w3 d os)) (by omega))
    have HLens := hide hlens
    clear hk hlens
    have k0 := cell_regrown x0
    have k1 := cell_regrown x1
    have k2 := cell_regrown x2
    have l0 := cell_regrown y0
    have l1 := cell_regrown y1
    have l2 := cell_regrown y2
    have l3 := cell_regrown y3
    have l4 := cell_regrown y4
    have m0 := cell_regrown z0
    have m1 := cell_regrown z1
    have m2 := cell_regrown z2
    have n0 := cell_regrown u0
    have n1 := cell_regrown u1
    have n2 := cell_regrown u2
    have n3 := cell_regrown u3
    have n4 := cell_regrown u4
    have q0 := cell_regrown t0
    clear x0 x1 x2 y0 y1 y2 y3 y4 z0 z1 z2 u0 u1 u2 u3 u4 t0
    have hwr : IntKind.i64.wrap ((P.length : Int) + 1) = (P.length : Int) + 1 := by rw [IntKind.wrap_i64]; omega
    have hi2 : (P.length : Int) < (P.length : Int) + 1 := by omega
    have hi3 : (P.length : Int) < (V.length : Int) + 1 := by omega
    have hi0 : (0 : Int) ≤ (P.length : Int) := by omega
    have hself : ((P.length : Int) + 1 != (P.length : Int) + 1) = false := by simp
    have hself1 : (v != v) = false := by simp
    refine wp_region_quiet_below (by kernel_rfl) (by kernel_rfl) ?_
    repeat (quiet_step (first | exact cC _ _ | exact cS _ _))
    refine wpQuiet_nil ?_
    intro _ hw'
    obtain ⟨⟨dq, osq⟩, hw''⟩ := hw'
    subst hw''
    have hbw := below_regrown w3 dq osq
    have HA4 := hide (HA3.out.below hbw)
    have HB4 := hide (HB3.out.on hbw)
    have HL4 := hide (HL3.out.below hbw HL3.out.lt)
    clear hbw HA3 HB3 HL3 cC cS k0 k1 k2 l0 l1 l2 l3 l4 m0 m1 m2 n0 n1 n2 n3 n4 q0 HPl HPo hB hself hself1 hwr hi2 hi3 hi0
    generalize Sort.grow (redrawn w3 dq) osq = w4 at *
    go_wp2_with fail
    go_loopw [9] (fun j wr => ∃ (q : Nat), q ≤ T.length ∧ j = .int .i64 q ∧ Below w4.heap.size w4 wr) (fun j _ => T.length - (intOf j).toNat)
    case atStart => exact ⟨0, Nat.zero_le _, rfl, Below.refl _ _⟩
    case round =>
      obtain ⟨q, hq, rfl, hbr⟩ := hrel
      have HA5 := hide (HA4.out.below hbr)
      have HB5 := hide (HB4.out.on hbr)
      have HL5 := hide (HL4.out.below hbr HL4.out.lt)
      have HBr := hide hbr
      clear hbr
      obtain ⟨⟨x0, x1, x2⟩, ⟨y0, y1, y2, y3, y4⟩, -, hB⟩ := HB5.out
      obtain ⟨z0, z1, z2⟩ := HL5.out
      simp only [Nat.zero_add] at y0 y1 y2 y3 y4
      by_cases hgo : q < T.length
      · obtain ⟨x, hx⟩ : ∃ x, T[q]? = some x := ⟨T[q], by simp [hgo]⟩
        obtain ⟨cn, cn', e1, e2, hc60, hcc0, hbd0⟩ := HRd.out x (List.mem_of_getElem? hx)
        have HCC := hide (And.intro hcc0 hbd0)
        clear hcc0 hbd0
        obtain ⟨A1, rfl, f0, f1, f2, f3, f4, f5⟩ := (HL0.out.below hB).at.1 q x hx
        have HO5 := hide (HL0.out.below hB)
        have HX := hide hx
        clear hx hB
        have cR : ∀ d os, Calls Try.prog 20 #[lg (some A1) o2 o3 T.length c1 P.length c2 V.length c3, .int .i64 x.i] (Sort.grow (redrawn wr d) os) fun e w'' => e = .returned (.tuple #[.int .i64 (cn : Int), .int .i64 0]) ∧ ∃ p : Regrown, w'' = Sort.grow (redrawn wr p.d) p.os :=
          fun d os => Calls.regrown_of (by have h := HRl.out _ (HO5.out.below (below_regrown wr d os)) x.i; rw [e1] at h; exact h)
        have k0 := cell_regrown x0
        have k1 := cell_regrown x1
        have k2 := cell_regrown x2
        have m0 := cell_regrown f0
        clear e1 x1 x2
        go_wp2_with fail
        refine wp_region_quiet_below (by kernel_rfl) (by kernel_rfl) ?_
        repeat (quiet_step (first | exact cR _ _))
        refine wpQuiet_nil ?_
        intro _ hw'
        obtain ⟨⟨dq, osq⟩, hw''⟩ := hw'
        subst hw''
        have hbw := below_regrown wr dq osq
        have HA6 := hide (HA5.out.below hbw)
        have HB6 := hide (HB5.out.on hbw)
        have HL6 := hide (HL5.out.below hbw HL5.out.lt)
        have HBr6 := hide (HBr.out.trans (hbw.mono HBr.out.size))
        clear hbw HA5 HB5 HL5 HBr cR k0 k1 k2 m0 x0 y0 y1 y2 y3 y4 z0 z1 z2 f0 f1 f2 f3 f4 f5 HO5
        generalize Sort.grow (redrawn wr dq) osq = w6 at *
        obtain ⟨⟨x0, x1, x2⟩, ⟨y0, y1, y2, y3, y4⟩, -, hB⟩ := HB6.out
        obtain ⟨z0, z1, z2⟩ := HL6.out
        simp only [Nat.zero_add] at y0 y1 y2 y3 y4
        obtain ⟨A1', hA1, f0, f1, f2, f3, f4, f5⟩ : ∃ b, some A1 = some b ∧ Tik6 w6 (b.add (q * 6)) x := (HL0.out.below hB).at.1 q x HX.out
        cases hA1
        have cR : ∀ d os, Calls Try.prog 20 #[lg oa1 (some A) (some A3) T.length ca1 (P.length + 1) ca2 (V.length + 1) ca3, .int .i64 x.i] (Sort.grow (redrawn w6 d) os) fun e w'' => e = .returned (.tuple #[.int .i64 (cn' : Int), .int .i64 0]) ∧ ∃ p : Regrown, w'' = Sort.grow (redrawn w6 p.d) p.os :=
          fun d os => Calls.regrown_of (by have h := ridesVv (HA6.out.below (below_regrown w6 d os)) HLens.out x.i; rw [e2] at h; exact h)
        have k0 := cell_regrown x0
        have k1 := cell_regrown z0
        have k2 := cell_regrown z1
        have k3 := cell_regrown z2
        have m0 := cell_regrown f0
        clear e2 x1 x2 z0 z1 z2 x0
        go_wp2_with fail
        refine wp_region_quiet_below (by kernel_rfl) (by kernel_rfl) ?_
        repeat (quiet_step (first | exact cR _ _))
        refine wpQuiet_nil ?_
        intro _ hw'
        obtain ⟨⟨dq, osq⟩, hw''⟩ := hw'
        subst hw''
        have hbw := below_regrown w6 dq osq
        have HB7 := hide (HB6.out.on hbw)
        have HBr7 := hide (HBr6.out.trans (hbw.mono HBr6.out.size))
        clear hbw HA6 HB6 HL6 HBr6 cR k0 k1 k2 k3 m0 y0 y1 y2 y3 y4 f0 f1 f2 f3 f4 f5 hB
        generalize Sort.grow (redrawn w6 dq) osq = w7 at *
        obtain ⟨⟨x0, x1, x2⟩, ⟨y0, y1, y2, y3, y4⟩, -, hB⟩ := HB7.out
        simp only [Nat.zero_add] at y0 y1 y2 y3 y4
        obtain ⟨A1', hA1, f0, f1, f2, f3, f4, f5⟩ : ∃ b, some A1 = some b ∧ Tik6 w7 (b.add (q * 6)) x := (HL0.out.below hB).at.1 q x HX.out
        cases hA1
        clear hB
        obtain ⟨hcc, hbd⟩ := HCC.out
        have hc61 : cn' ≤ 61 := by
          have := hcc
          split at this <;> omega
        have hw : ((x.i == a) = false ∧ ((cn' : Int) != (cn : Int)) = false) ∨ ((x.i == a) = true ∧ (v == 1) = false ∧ ((cn' : Int) != (cn : Int)) = false) ∨ ((x.i == a) = true ∧ (v == 1) = true ∧ ((cn' : Int) != (cn : Int) + 1) = false) := by
          by_cases h1 : x.i = a
          · by_cases h2 : v = 1
            · rw [if_pos ⟨h1, h2⟩] at hcc
              exact Or.inr (Or.inr ⟨by simpa using h1, by simpa using h2, by simpa using hcc⟩)
            · rw [if_neg (fun h => h2 h.2)] at hcc
              exact Or.inr (Or.inl ⟨by simpa using h1, by simpa using h2, by simp; omega⟩)
          · rw [if_neg (fun h => h1 h.1)] at hcc
            exact Or.inl ⟨by simpa using h1, by simp; omega⟩
        have hk : ((x.k == 1) = true ∧ (x.k == 3) = false ∧ ¬ (1 : Int) < (cn' : Int)) ∨ ((x.k == 1) = false ∧ (x.k == 3) = true ∧ ¬ x.r < (cn' : Int)) ∨ ((x.k == 1) = false ∧ (x.k == 3) = false) := by
          by_cases k1 : x.k = 1
          · have := hbd.1 k1
            exact Or.inl ⟨by simpa using k1, by simp [k1], by omega⟩
          · by_cases k3 : x.k = 3
            · have := hbd.2 k3
              exact Or.inr (Or.inl ⟨by simp [k3], by simpa using k3, by omega⟩)
            · exact Or.inr (Or.inr ⟨by simpa using k1, by simpa using k3⟩)
        clear hcc hbd HX HCC HRd HCa HRl HLens
        rcases hw with ⟨w1', w3'⟩ | ⟨w1', w2', w3'⟩ | ⟨w1', w2', w3'⟩ <;> rcases hk with ⟨k1', k2', k3'⟩ | ⟨k1', k2', k3'⟩ | ⟨k1', k2'⟩
        all_goals
          go_wp2_with fail
          go_region
          go_wp2_with fail
          exact ⟨⟨q + 1, by omega, by simp, HBr7.out.drew⟩, by simp [intOf]; omega⟩
      · go_wp2_with fail
        go_ret
        exact ⟨rfl, HB5.out.2.2.2⟩
  · have hv := enter_err hE
    clear HRl hl
    generalize enterV T P V ⟨a, g, s, m, z⟩ = E at *
    obtain ⟨v, e⟩ := E
    simp only [] at hE hv
    rw [if_neg hE, if_neg hE, if_neg hE] at HE
    have hE' : (e != 0) = true := by simpa using hE
    clear hE
    rcases hv with rfl | rfl
    all_goals
      go_enter Try.func8, Try.ntmps8
      go_wp2_with fail
      refine (HE.out _ (HL0.out.below ?_)).mono ?_
      · repeat (first | with_reducible exact Below.refl _ _ | with_reducible refine Below.alloc ?_ (by simp; try omega) _)
      rintro e w1 ⟨⟨va, rfl, hva⟩, hb1⟩
      obtain ⟨oa1, ca1, oa2, ca2, oa3, ca3, rfl, -⟩ := hva.parts
      simp only [List.length_nil]
      have HB1 := hide (boxesB_of _ _ _ _ _ _ _ _ _ _ _ _ _ _ _ _ _ _ hb1)
      clear hb1 hva
      go_wp2_with fail
      have hb := (Below.refl w1.heap.size w1).alloc (Nat.le_refl _) (cL oa1 oa2 oa3 0 ca1 0 ca2 0 ca3 43)
      have HL1 : Hid (Led3 (w1.alloc (cL oa1 oa2 oa3 0 ca1 0 ca2 0 ca3 43)) w1.heap.size oa1 oa2 oa3 0 ca1 0 ca2 0 ca3) := hide ⟨by simp [go_sem], by simp [go_sem], by simp [go_sem]⟩
      have HB2 := hide (HB1.out.on hb)
      clear HB1 hb
      generalize w1.alloc (cL oa1 oa2 oa3 0 ca1 0 ca2 0 ca3 43) = w2 at *
      refine (ledgerBegun_any _).mono ?_
      rintro e w3 ⟨rfl, hb3⟩
      have HB3 := hide (HB2.out.on hb3)
      have HL3 := hide (HL1.out.below hb3 HL1.out.lt)
      clear hb3 HB2 HL1
      obtain ⟨z0, z1, z2⟩ := HL3.out
      go_wp2_with fail
      go_ret
      exact ⟨rfl, HB3.out.2.2.2⟩
end Go.Proofs.Ytcakfmpckbmdeab
