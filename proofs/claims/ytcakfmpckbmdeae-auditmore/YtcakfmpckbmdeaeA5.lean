/-
  The walk of AuditMore.
-/
import Derived.Test.YtcakfmpckbmdeaeA3
import Derived.Test.YtcakfmpckbmdeaeA4
import Derived.Test.YtcakfmpckbmdeaeW4
namespace Go.Proofs.Ytcakfmpckbmdeae
open Go.RowKit

set_option maxHeartbeats 6400000 in
set_option maxRecDepth 100000 in
theorem auditMore_walk (o1 o2 o3 : Option Addr) (T : List TK) (P : List TP) (V : List Int) (c1 c2 c3 : Nat) (a g s m z : Int) (w : World) (h : LedV w (lg o1 o2 o3 T.length c1 P.length c2 V.length c3) T P V) (hl : LensOk T P V) :
    Calls Try.prog 4 #[lg o1 o2 o3 T.length c1 P.length c2 V.length c3, tp a g s m z] w fun e w' => e = .returned (.bool true) ∧ Below w.heap.size w w' := by
  have HL0 := hide h
  have HE := hide (fun W (h : LedV W (lg o1 o2 o3 T.length c1 P.length c2 V.length c3) T P V) => enterVv h hl a g s m z)
  have HRl := hide (fun W (h : LedV W (lg o1 o2 o3 T.length c1 P.length c2 V.length c3) T P V) id => leftVv h hl id)
  have HGl := hide (fun W (h : LedV W (lg o1 o2 o3 T.length c1 P.length c2 V.length c3) T P V) id => gateVv h hl id)
  clear h
  have hl2 := hl.2.1
  have hl1 := hl.1
  by_cases hE : (enterV T P V ⟨a, g, s, m, z⟩).2 = 0
  · have hr := enter_right hE
    have hck := chkL_right hr.1
    have HRd := hide (fun x (hx : x ∈ T) => more_left hE hx)
    have HGd := hide (more_gate hE)
    have hlp : P.length < 60 := hr.2.2.2.2.1
    have hlt12 : T.length ≤ 12 := hck.1
    have hv2 : V.length < 60 := by omega
    clear hr hck hl
    generalize enterV T P V ⟨a, g, s, m, z⟩ = E at *
    obtain ⟨v, e⟩ := E
    simp only [] at hE HRd HGd
    subst hE
    simp only [if_true] at HE
    go_enter Try.func4, Try.ntmps4
    go_wp2_with fail
    refine (HE.out _ (HL0.out.below ?_)).mono ?_
    · repeat (first | with_reducible exact Below.refl _ _ | with_reducible refine Below.alloc ?_ (by simp; try omega) _)
    rintro e w1 ⟨⟨va, rfl, hva⟩, hb1⟩
    obtain ⟨oa1, ca1, oa2, ca2, oa3, ca3, rfl, hva'⟩ := hva.parts
    simp only [List.length_append, List.length_singleton] at hva' ⊢
    have HA := hide hva'
    have HB1 := hide (boxesB_of _ _ _ _ _ _ _ _ _ _ _ _ _ _ _ _ _ _ hb1)
    clear hb1 hva hva' HE
    go_wp2_with fail
    have hb := (Below.refl w1.heap.size w1).alloc (Nat.le_refl _) (cL oa1 oa2 oa3 T.length ca1 (P.length + 1) ca2 (V.length + 1) ca3 26)
    have HL5 : Hid (Led3 (w1.alloc (cL oa1 oa2 oa3 T.length ca1 (P.length + 1) ca2 (V.length + 1) ca3 26)) w1.heap.size oa1 oa2 oa3 T.length ca1 (P.length + 1) ca2 (V.length + 1) ca3) := hide ⟨by simp [go_sem], by simp [go_sem], by simp [go_sem]⟩
    have HA1 := hide (HA.out.below hb)
    have HB2 := hide (HB1.out.on hb)
    clear HA HB1 hb
    generalize w1.alloc (cL oa1 oa2 oa3 T.length ca1 (P.length + 1) ca2 (V.length + 1) ca3 26) = w2 at *
    refine (auditBegun_any _).mono ?_
    rintro e w3 ⟨rfl, hb3⟩
    have HA3 := hide (HA1.out.below hb3)
    have HB3 := hide (HB2.out.on hb3)
    have HL3 := hide (HL5.out.below hb3 HL5.out.lt)
    clear hb3 HA1 HB2 HL5
    go_wp2_with fail
    refine (ledgerBegun_any _).mono ?_
    rintro e w4 ⟨rfl, hb3⟩
    have HA4 := hide (HA3.out.below hb3)
    have HB4 := hide (HB3.out.on hb3)
    have HL4 := hide (HL3.out.below hb3 HL3.out.lt)
    clear hb3 HA3 HB3 HL3
    have HLens : Hid (LensOk T (P ++ [(⟨a, g, s, m, z⟩ : TP)]) (V ++ [v])) := hide (by simp [LensOk]; omega)
    go_wp2_with fail
    go_loopw [8] (fun j wr => ∃ (q : Nat), q ≤ T.length ∧ j = .int .i64 q ∧ Below w4.heap.size w4 wr) (fun j _ => T.length - (intOf j).toNat)
    case atStart => exact ⟨0, Nat.zero_le _, rfl, Below.refl _ _⟩
    case round =>
      obtain ⟨q, hq, rfl, hbr⟩ := hrel
      have HA5 := hide (HA4.out.below hbr)
      have HB5 := hide (HB4.out.on hbr)
      have HL5 := hide (HL4.out.below hbr HL4.out.lt)
      have HBr := hide hbr
      clear hbr
      obtain ⟨⟨x0, x1, x2⟩, ⟨y0, y1, y2, y3, y4⟩, -, hB⟩ := HB5.out
      obtain ⟨z0, z1, z2⟩ := HL5.out
      simp only [Nat.zero_add] at y0 y1 y2 y3 y4
      by_cases hgo : q < T.length
      · obtain ⟨x, hx⟩ : ∃ x, T[q]? = some x := ⟨T[q], by simp [hgo]⟩
        obtain ⟨n, m', e1, e2, hn1, hn2, hcc0⟩ := HRd.out x (List.mem_of_getElem? hx)
        have HCC := hide hcc0
        clear hcc0
        obtain ⟨A1, rfl, f0, f1, f2, f3, f4, f5⟩ := (HL0.out.below hB).at.1 q x hx
        have HO5 := hide (HL0.out.below hB)
        have HX := hide hx
        clear hx hB
        have cR : ∀ d os, Calls Try.prog 17 #[lg (some A1) o2 o3 T.length c1 P.length c2 V.length c3, .int .i64 x.i] (Sort.grow (redrawn wr d) os) fun e w'' => e = .returned (.tuple #[.int .i64 n, .int .i64 0]) ∧ ∃ p : Regrown, w'' = Sort.grow (redrawn wr p.d) p.os :=
          fun d os => Calls.regrown_of (by have h := HRl.out _ (HO5.out.below (below_regrown wr d os)) x.i; rw [e1] at h; exact h)
        have k0 := cell_regrown x0
        have k1 := cell_regrown x1
        have k2 := cell_regrown x2
        have m0 := cell_regrown f0
        clear e1 x1 x2
        go_wp2_with fail
        refine wp_region_quiet_below (by kernel_rfl) (by kernel_rfl) ?_
        repeat (quiet_step (first | exact cR _ _))
        refine wpQuiet_nil ?_
        intro _ hw'
        obtain ⟨⟨dq, osq⟩, hw''⟩ := hw'
        subst hw''
        have hbw := below_regrown wr dq osq
        have HA6 := hide (HA5.out.below hbw)
        have HB6 := hide (HB5.out.on hbw)
        have HL6 := hide (HL5.out.below hbw HL5.out.lt)
        have HBr6 := hide (HBr.out.trans (hbw.mono HBr.out.size))
        clear hbw HA5 HB5 HL5 HBr cR k0 k1 k2 m0 x0 y0 y1 y2 y3 y4 z0 z1 z2 f0 f1 f2 f3 f4 f5 HO5
        generalize Sort.grow (redrawn wr dq) osq = w6 at *
        obtain ⟨⟨x0, x1, x2⟩, ⟨y0, y1, y2, y3, y4⟩, -, hB⟩ := HB6.out
        obtain ⟨z0, z1, z2⟩ := HL6.out
        simp only [Nat.zero_add] at y0 y1 y2 y3 y4
        obtain ⟨A1', hA1, f0, f1, f2, f3, f4, f5⟩ : ∃ b, some A1 = some b ∧ Tik6 w6 (b.add (q * 6)) x := (HL0.out.below hB).at.1 q x HX.out
        cases hA1
        have cR : ∀ d os, Calls Try.prog 17 #[lg oa1 oa2 oa3 T.length ca1 (P.length + 1) ca2 (V.length + 1) ca3, .int .i64 x.i] (Sort.grow (redrawn w6 d) os) fun e w'' => e = .returned (.tuple #[.int .i64 m', .int .i64 0]) ∧ ∃ p : Regrown, w'' = Sort.grow (redrawn w6 p.d) p.os :=
          fun d os => Calls.regrown_of (by have h := leftVv (HA6.out.below (below_regrown w6 d os)) HLens.out x.i; rw [e2] at h; exact h)
        have k0 := cell_regrown x0
        have k1 := cell_regrown z0
        have k2 := cell_regrown z1
        have k3 := cell_regrown z2
        have m0 := cell_regrown f0
        clear e2 x1 x2 z0 z1 z2 x0
        go_wp2_with fail
        refine wp_region_quiet_below (by kernel_rfl) (by kernel_rfl) ?_
        repeat (quiet_step (first | exact cR _ _))
        refine wpQuiet_nil ?_
        intro _ hw'
        obtain ⟨⟨dq, osq⟩, hw''⟩ := hw'
        subst hw''
        have hbw := below_regrown w6 dq osq
        have HB7 := hide (HB6.out.on hbw)
        have HBr7 := hide (HBr6.out.trans (hbw.mono HBr6.out.size))
        clear hbw HA6 HB6 HL6 HBr6 cR k0 k1 k2 k3 m0 y0 y1 y2 y3 y4 f0 f1 f2 f3 f4 f5 hB
        generalize Sort.grow (redrawn w6 dq) osq = w7 at *
        obtain ⟨⟨x0, x1, x2⟩, ⟨y0, y1, y2, y3, y4⟩, -, hB⟩ := HB7.out
        simp only [Nat.zero_add] at y0 y1 y2 y3 y4
        obtain ⟨A1', hA1, f0, f1, f2, f3, f4, f5⟩ : ∃ b, some A1 = some b ∧ Tik6 w7 (b.add (q * 6)) x := (HL0.out.below hB).at.1 q x HX.out
        cases hA1
        clear hB
        have hw : ((v == 1) = false ∧ (m' != n) = false) ∨ ((v == 1) = true ∧ (x.i == a) = false ∧ (m' != n) = false) ∨ ((v == 1) = true ∧ (x.i == a) = true ∧ (m' != n - 1) = false) := by
          have hcc := HCC.out
          by_cases h2 : v = 1
          · by_cases h1 : x.i = a
            · rw [if_pos ⟨h1, h2⟩] at hcc
              exact Or.inr (Or.inr ⟨by simpa using h2, by simpa using h1, by simpa using hcc⟩)
            · rw [if_neg (fun h => h1 h.1)] at hcc
              exact Or.inr (Or.inl ⟨by simpa using h2, by simpa using h1, by simp; omega⟩)
          · rw [if_neg (fun h => h2 h.2)] at hcc
            exact Or.inl ⟨by simpa using h2, by simp; omega⟩
        have hwr0 : IntKind.i64.wrap (n - 0) = n := by rw [IntKind.wrap_i64]; omega
        have hwr1 : IntKind.i64.wrap (n - 1) = n - 1 := by rw [IntKind.wrap_i64]; omega
        clear HX HCC HRd HRl HLens HGd HGl
        rcases hw with ⟨w1', w3'⟩ | ⟨w1', w2', w3'⟩ | ⟨w1', w2', w3'⟩
        all_goals
          go_wp2_with fail
          try go_region
          try go_wp2_with fail
          exact ⟨⟨q + 1, by omega, by simp, by first | exact HBr7.out.drew | exact HBr7.out⟩, by simp [intOf]; omega⟩
      · obtain ⟨gx, gy, gz, gu, e1, e2, b1, b2, b3, b4, hw⟩ := HGd.out
        have HW := hide hw
        have HE2 := hide e2
        clear hw e2
        go_wp2_with fail
        have hg := HGl.out _ (HL0.out.below hB) g
        rw [e1] at hg
        refine hg.mono ?_
        rintro e w6 ⟨rfl, hb⟩
        have HA6 := hide (HA5.out.below hb)
        have HB6 := hide (HB5.out.on hb)
        have HL6 := hide (HL5.out.below hb HL5.out.lt)
        clear hb hg HA5 HB5 HL5 HBr x0 x1 x2 y0 y1 y2 y3 y4 z0 z1 z2 hB
        obtain ⟨⟨x0, x1, x2⟩, ⟨y0, y1, y2, y3, y4⟩, -, hB⟩ := HB6.out
        obtain ⟨z0, z1, z2⟩ := HL6.out
        simp only [Nat.zero_add] at y0 y1 y2 y3 y4
        go_wp2_with fail
        have hg := gateVv HA6.out HLens.out g
        rw [HE2.out] at hg
        refine hg.mono ?_
        rintro e w7 ⟨rfl, hb⟩
        have HB7 := hide (HB6.out.on hb)
        clear hb hg HA6 HB6 HL6 x0 x1 x2 y0 y1 y2 y3 y4 z0 z1 z2 hB
        have hwr0 : IntKind.i64.wrap (gx + gy) = gx + gy := by rw [IntKind.wrap_i64]; omega
        have hwr1 : IntKind.i64.wrap (gx + gy + 1) = gx + gy + 1 := by rw [IntKind.wrap_i64]; omega
        have hwr3 : IntKind.i64.wrap (gx + 1) = gx + 1 := by rw [IntKind.wrap_i64]; omega
        have hne : (gx == gx + 1) = false := by simp; omega
        have hwr4 : IntKind.i64.wrap (gx + 1 + gy) = gx + gy + 1 := by rw [IntKind.wrap_i64]; omega
        have hwr5 : IntKind.i64.wrap (gx + (gy + 1)) = gx + gy + 1 := by rw [IntKind.wrap_i64]; omega
        have hw : ((v == 1) = true ∧ gz = gx + 1 ∧ gu = gy) ∨ ((v == 1) = false ∧ gz = gx ∧ gu = gy + 1) := by
          rcases HW.out with ⟨h1, h2, h3⟩ | ⟨h1, h2, h3⟩
          · exact Or.inl ⟨by simpa using h1, h2, h3⟩
          · exact Or.inr ⟨by simp [h1], h2, h3⟩
        clear HW HE2 HRd HRl HLens HGd HGl
        rcases hw with ⟨w1', rfl, rfl⟩ | ⟨w1', rfl, rfl⟩
        all_goals
          go_wp2_with fail
          try go_region
          try go_wp2_with fail
          go_ret
          exact ⟨by simp, by first | exact HB7.out.2.2.2.drew | exact HB7.out.2.2.2⟩
  · clear HRl HGl hl
    generalize enterV T P V ⟨a, g, s, m, z⟩ = E at *
    obtain ⟨v, e⟩ := E
    simp only [] at hE
    rw [if_neg hE, if_neg hE, if_neg hE] at HE
    have hE' : (e != 0) = true := by simpa using hE
    clear hE
    go_enter Try.func4, Try.ntmps4
    go_wp2_with fail
    refine (HE.out _ (HL0.out.below ?_)).mono ?_
    · repeat (first | with_reducible exact Below.refl _ _ | with_reducible refine Below.alloc ?_ (by simp; try omega) _)
    rintro e w1 ⟨⟨va, rfl, hva⟩, hb1⟩
    obtain ⟨oa1, ca1, oa2, ca2, oa3, ca3, rfl, -⟩ := hva.parts
    simp only [List.length_nil]
    have HB1 := hide (boxesB_of _ _ _ _ _ _ _ _ _ _ _ _ _ _ _ _ _ _ hb1)
    clear hb1 hva
    go_wp2_with fail
    have hb := (Below.refl w1.heap.size w1).alloc (Nat.le_refl _) (cL oa1 oa2 oa3 0 ca1 0 ca2 0 ca3 26)
    have HL1 : Hid (Led3 (w1.alloc (cL oa1 oa2 oa3 0 ca1 0 ca2 0 ca3 26)) w1.heap.size oa1 oa2 oa3 0 ca1 0 ca2 0 ca3) := hide ⟨by simp [go_sem], by simp [go_sem], by simp [go_sem]⟩
    have HB2 := hide (HB1.out.on hb)
    clear HB1 hb
    generalize w1.alloc (cL oa1 oa2 oa3 0 ca1 0 ca2 0 ca3 26) = w2 at *
    refine (auditBegun_any _).mono ?_
    rintro e w3 ⟨rfl, hb3⟩
    have HB3 := hide (HB2.out.on hb3)
    have HL3 := hide (HL1.out.below hb3 HL1.out.lt)
    clear hb3 HB2 HL1
    go_wp2_with fail
    refine (ledgerBegun_any _).mono ?_
    rintro e w4 ⟨rfl, hb3⟩
    have HB4 := hide (HB3.out.on hb3)
    have HL4 := hide (HL3.out.below hb3 HL3.out.lt)
    clear hb3 HB3 HL3
    obtain ⟨z0, z1, z2⟩ := HL4.out
    go_wp2_with fail
    go_ret
    exact ⟨rfl, HB4.out.2.2.2⟩
end Go.Proofs.Ytcakfmpckbmdeae
