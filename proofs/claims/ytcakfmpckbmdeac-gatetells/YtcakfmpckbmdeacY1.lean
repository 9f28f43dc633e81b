/-
  'CheckGate' (package leeboardref).
-/
import Derived.Test.YtcakfmpckbmdeacJ3
import Derived.Test.YtcakfmpckbmdeacN2
import Derived.BigQuiet
import Derived.Deep.CutRange
import Derived.Deep.CutBlock
namespace Go.Proofs.Ytcakfmpckbmdeac
open Go.RowKit

theorem errS_ways (i z s : Int) (n : Nat) : (wi i 0 2 = false ∧ errS i z s n = 3) ∨ (wi i 0 2 = true ∧ wi s 0 99 = false ∧ errS i z s n = 3) ∨ (wi i 0 2 = true ∧ wi s 0 99 = true ∧ isZ z = false ∧ errS i z s n = 9) ∨ (wi i 0 2 = true ∧ wi s 0 99 = true ∧ isZ z = true ∧ 12 < n ∧ errS i z s n = 2) ∨ (wi i 0 2 = true ∧ wi s 0 99 = true ∧ isZ z = true ∧ ¬ 12 < n ∧ errS i z s n = 0) := by
  unfold errS
  cases wi i 0 2
  · simp
  · cases wi s 0 99
    · simp
    · cases isZ z
      · simp
      · by_cases h : 12 < n
        · simp [h]
        · simp [h]

theorem errB_ways (l u : Int) : (wi l 0 9 = false ∧ errB l u = 3) ∨ (wi l 0 9 = true ∧ wi u 0 10099 = false ∧ errB l u = 3) ∨ (wi l 0 9 = true ∧ wi u 0 10099 = true ∧ errB l u = 0) := by
  unfold errB
  cases wi l 0 9
  · simp
  · cases wi u 0 10099 <;> simp

theorem errQ_ways (s : Int) (P : List TP) : (P.length = 0 ∧ errQ s P = 0) ∨ (∃ n x, P.length = n + 1 ∧ P[n]? = some x ∧ (((x.s != s) = false ∧ errQ s P = 0) ∨ ((x.s != s) = true ∧ errQ s P = 4))) := by
  rcases hn : P.length with _ | n
  · left
    have hL0 : P = [] := List.eq_nil_of_length_eq_zero hn
    subst hL0
    exact ⟨rfl, rfl⟩
  · right
    obtain ⟨x, hx⟩ : ∃ x, P[n]? = some x := ⟨P[n]'(by omega), by simp [hn]⟩
    have hQ : errQ s P = if x.s = s then 0 else 4 := by rw [errQ, List.getLast?_eq_getElem?, hn, Nat.add_sub_cancel, hx]
    refine ⟨n, x, rfl, hx, ?_⟩
    by_cases h : x.s = s
    · left; exact ⟨by simpa using h, by rw [hQ, if_pos h]⟩
    · right; exact ⟨by simpa using h, by rw [hQ, if_neg h]⟩

/-- the ways of a tap that was let through alone, as the document asks -/
theorem okA_ways (i z : Int) (y : Option TP) (p : TP) : (okA i z y p = false ∧ (p.g != i) = true) ∨ (okA i z y p = false ∧ (p.g != i) = false ∧ (p.z != z) = true) ∨
    ((p.g != i) = false ∧ (p.z != z) = false ∧ ((y = none ∧ okA i z y p = true) ∨ ∃ x, y = some x ∧ ((decide (p.m < x.m) = true ∧ okA i z y p = false) ∨ (decide (p.m < x.m) = false ∧ (p.s - 1 != x.s) = true ∧ okA i z y p = false) ∨ (decide (p.m < x.m) = false ∧ (p.s - 1 != x.s) = false ∧ okA i z y p = true)))) := by
  by_cases h1 : p.g = i
  · by_cases h2 : p.z = z
    · right; right
      refine ⟨by simp [h1], by simp [h2], ?_⟩
      cases y with
      | none => left; exact ⟨rfl, by simp [okA, h1, h2]⟩
      | some x =>
        right
        refine ⟨x, rfl, ?_⟩
        by_cases h3 : p.m < x.m
        · left
          exact ⟨by simpa using h3, by simp [okA, folB, h1, h2]; omega⟩
        · right
          by_cases h4 : p.s - 1 = x.s
          · right
            refine ⟨by simpa using h3, by simp [h4], ?_⟩
            have e1 : x.m ≤ p.m := by omega
            have e2 : p.s = x.s + 1 := by omega
            simp [okA, folB, h1, h2, e1, e2]
          · left
            refine ⟨by simpa using h3, by simpa using h4, ?_⟩
            have e2 : ¬ p.s = x.s + 1 := by omega
            simp [okA, folB, h1, h2, e2]
    · right; left
      exact ⟨by simp [okA, h2], by simp [h1], by simpa using h2⟩
  · left
    exact ⟨by simp [okA, h1], by simpa using h1⟩

set_option maxHeartbeats 12800000 in
set_option maxRecDepth 100000 in
theorem checkGate_any (i z s : Int) (oa : Option Addr) (P : List TP) (ca : Nat) (v : Int) (od : Option Addr) (D : List Int) (cd : Nat) (l u : Int) (w : World) (hP : TapsAt w oa P) (hD : IntsAt w od D) (hlD : D.length ≤ 9223372036854775807) :
    Calls Try.prog 29 #[gtV i z s oa P.length ca v od D.length cd l u] w fun e w' => e = .returned (.int .i64 (chkG i z s P v D l u)) ∧ Below w.heap.size w w' := by
  have HG := hide ((Blks.nil w).more (cG i z s oa P.length ca v od D.length cd l u 61) (by simp))
  have HP := hide hP
  have HD := hide hD
  have HCD := hide (fun W (h : IntsAt W od D) => checkDenied_any v D od cd W h hlD)
  have HC1 : Hid (errS i z s P.length ≠ 0 → chkG i z s P v D l u = errS i z s P.length) := hide (fun h => by rw [chkG, if_neg h])
  have HC2 : Hid (errS i z s P.length = 0 → aloneE i z s P ≠ 0 → chkG i z s P v D l u = aloneE i z s P) := hide (fun h h' => by rw [chkG, if_pos h, if_neg h'])
  have HC3 : Hid (errS i z s P.length = 0 → aloneE i z s P = 0 → chkG i z s P v D l u = if chkD v D = 0 then errB l u else chkD v D) := hide (fun h h' => by rw [chkG, if_pos h, if_pos h'])
  have HA : Hid (errA i z none P ≠ 0 → aloneE i z s P = errA i z none P) := fun h => by rw [aloneE, if_neg h]
  have HZ : Hid (errA i z none P = 0 → aloneE i z s P = errQ s P) := fun h => by rw [aloneE, if_pos h]
  generalize chkG i z s P v D l u = R at *
  generalize aloneE i z s P = AE at *
  generalize chkD v D = X at *
  clear hP hD
  rcases errS_ways i z s P.length with ⟨h1, e⟩ | ⟨h1, h2, e⟩ | ⟨h1, h2, h3, e⟩ | ⟨h1, h2, h3, h4, e⟩ | ⟨h1, h2, h3, h4, e⟩
  · have HR := hide ((HC1.out (by rw [e]; decide)).trans e)
    clear e HC1 HC2 HC3
    go_enter Try.func29, Try.ntmps29
    go_wp2_with first
      | (go_at_call 60; refine (between_any _ _ _ _).mono ?_; rintro e w' ⟨rfl, rfl⟩; first | rw [h1] | rw [h2])
      | (go_at_call 69; refine (isZone_any _ _).mono ?_; rintro e w' ⟨rfl, rfl⟩; rw [h3])
    go_ret
    exact ⟨by rw [HR.out]; rfl, HG.out.2.2⟩
  · have HR := hide ((HC1.out (by rw [e]; decide)).trans e)
    clear e HC1 HC2 HC3
    go_enter Try.func29, Try.ntmps29
    go_wp2_with first
      | (go_at_call 60; refine (between_any _ _ _ _).mono ?_; rintro e w' ⟨rfl, rfl⟩; first | rw [h1] | rw [h2])
      | (go_at_call 69; refine (isZone_any _ _).mono ?_; rintro e w' ⟨rfl, rfl⟩; rw [h3])
    go_ret
    exact ⟨by rw [HR.out]; rfl, HG.out.2.2⟩
  · have HR := hide ((HC1.out (by rw [e]; decide)).trans e)
    clear e HC1 HC2 HC3
    go_enter Try.func29, Try.ntmps29
    go_wp2_with first
      | (go_at_call 60; refine (between_any _ _ _ _).mono ?_; rintro e w' ⟨rfl, rfl⟩; first | rw [h1] | rw [h2])
      | (go_at_call 69; refine (isZone_any _ _).mono ?_; rintro e w' ⟨rfl, rfl⟩; rw [h3])
    go_ret
    exact ⟨by rw [HR.out]; rfl, HG.out.2.2⟩
  · have HR := hide ((HC1.out (by rw [e]; decide)).trans e)
    clear e HC1 HC2 HC3
    go_enter Try.func29, Try.ntmps29
    go_wp2_with first
      | (go_at_call 60; refine (between_any _ _ _ _).mono ?_; rintro e w' ⟨rfl, rfl⟩; first | rw [h1] | rw [h2])
      | (go_at_call 69; refine (isZone_any _ _).mono ?_; rintro e w' ⟨rfl, rfl⟩; rw [h3])
    go_ret
    exact ⟨by rw [HR.out]; rfl, HG.out.2.2⟩
  · have HC2' := hide (HC2.out e)
    have HC3' := hide (HC3.out e)
    clear e HC1 HC2 HC3
    go_enter Try.func29, Try.ntmps29
    go_wp2_with first
      | (go_at_call 60; refine (between_any _ _ _ _).mono ?_; rintro e w' ⟨rfl, rfl⟩; first | rw [h1] | rw [h2])
      | (go_at_call 69; refine (isZone_any _ _).mono ?_; rintro e w' ⟨rfl, rfl⟩; rw [h3])
    go_loopw [3] (fun j wr => ∃ (q : Nat) (y : Option TP), q ≤ P.length ∧ j = .int .i64 q ∧ Hid (errA i z none P = errA i z y (P.drop q) ∧ (q = 0 → y = none) ∧ (∀ k, q = k + 1 → ∃ x, y = some x ∧ P[k]? = some x)) ∧ Hid (Blks w wr ([] ++ [cG i z s oa P.length ca v od D.length cd l u 61]))) (fun j _ => P.length - (intOf j).toNat)
    case atStart => exact ⟨0, none, Nat.zero_le _, rfl, ⟨by simp, fun _ => rfl, fun k h => by omega⟩, HG⟩
    case round =>
      obtain ⟨q, y, hq, rfl, hE, HB⟩ := hrel
      have x0 := HB.out.cell 0 0 w.heap.size _ _ _ rfl rfl rfl
      have x1 := HB.out.cell 0 1 w.heap.size _ _ _ rfl rfl rfl
      have x2 := HB.out.cell 0 2 w.heap.size _ _ _ rfl rfl rfl
      have x3 := HB.out.cell 0 3 w.heap.size _ _ _ rfl rfl rfl
      have x4 := HB.out.cell 0 4 w.heap.size _ _ _ rfl rfl rfl
      have x5 := HB.out.cell 0 5 w.heap.size _ _ _ rfl rfl rfl
      have x6 := HB.out.cell 0 6 w.heap.size _ _ _ rfl rfl rfl
      have x7 := HB.out.cell 0 7 w.heap.size _ _ _ rfl rfl rfl
      by_cases hgo : q < P.length
      · obtain ⟨p, hp⟩ : ∃ p, P[q]? = some p := ⟨P[q], by simp [hgo]⟩
        obtain ⟨A, rfl, e0, e1, e2, e3, e4⟩ := HP.out.below HB.out.2.2 q p hp
        have HX := hide hp
        have hE' := hE.out.1
        rw [drop_cons hp] at hE'
        have hw := errA_ways i z y p (P.drop (q + 1))
        rw [← hE'] at hw
        clear hE' hp
        go_wp2_with fail
        have HT := hide ((Blks.nil wr).more (cP p.a p.g p.s p.m p.z 38) (by simp))
        refine (checkTap_any p.a p.g p.s p.m p.z _).mono ?_
        rintro e w2 ⟨rfl, hb⟩
        have HT2 := hide (HT.out.on hb)
        have HB2 := hide (HB.out.on HT2.out.2.2)
        clear hb HT HB x0 x1 x2 x3 x4 x5 x6 x7 e0 e1 e2 e3 e4
        have hk : chkP p.a p.g p.s p.m p.z = chkT p := rfl
        rw [hk]
        clear hk
        have HCp := hide (fun (h : chkT p = 0) => chkP_right (a := p.a) (g := p.g) (s := p.s) (m := p.m) (z := p.z) h)
        generalize chkT p = Y at *
        rcases hw with ⟨hw1, hw2⟩ | hw1
        · have hne : errA i z none P ≠ 0 := by rw [hw2]; simpa using hw1
          have HR := hide ((HC2'.out (by rw [HA.out hne]; exact hne)).trans ((HA.out hne).trans hw2))
          clear hw2 hne
          go_wp2_with fail
          go_ret
          exact ⟨by rw [HR.out]; rfl, HB2.out.2.2⟩
        · have hY : Y = 0 := by rcases hw1 with h | h <;> exact h.1
          subst hY
          have hs := (HCp.out rfl).2.2.1
          have H1 : Hid ((okA i z y p = false ∧ errA i z none P = 4) ∨ (okA i z y p = true ∧ errA i z none P = errA i z (some p) (P.drop (q + 1)))) := hide (by
            rcases hw1 with h | h
            · exact Or.inl h.2
            · exact Or.inr h.2)
          clear HCp hw1
          have H4 : Hid (okA i z y p = false → R = 4) := hide (fun h => by
            have h4 : errA i z none P = 4 := by
              rcases H1.out with h' | h'
              · exact h'.2
              · rw [h] at h'; cases h'.1
            have hne : errA i z none P ≠ 0 := by rw [h4]; decide
            exact (HC2'.out (by rw [HA.out hne]; exact hne)).trans ((HA.out hne).trans h4))
          have HN : Hid (okA i z y p = true → errA i z none P = errA i z (some p) (P.drop (q + 1)) ∧ (q + 1 = 0 → some p = none) ∧ (∀ k, q + 1 = k + 1 → ∃ x, some p = some x ∧ P[k]? = some x)) := hide (fun h => by
            refine ⟨?_, fun h => by omega, fun k hk => ⟨p, rfl, ?_⟩⟩
            · rcases H1.out with h' | h'
              · rw [h] at h'; cases h'.1
              · exact h'.2
            · obtain rfl : k = q := by omega
              exact HX.out)
          clear H1
          go_wp2_with fail
          have x0 := cell_regrown (HB2.out.cell 0 0 w.heap.size _ _ _ rfl rfl rfl)
          have x1 := cell_regrown (HB2.out.cell 0 1 w.heap.size _ _ _ rfl rfl rfl)
          have x2 := cell_regrown (HB2.out.cell 0 2 w.heap.size _ _ _ rfl rfl rfl)
          have x3 := cell_regrown (HB2.out.cell 0 3 w.heap.size _ _ _ rfl rfl rfl)
          have t0 := cell_regrown (HT2.out.cell 0 0 wr.heap.size _ _ _ rfl rfl rfl)
          have t1 := cell_regrown (HT2.out.cell 0 1 wr.heap.size _ _ _ rfl rfl rfl)
          have t2 := cell_regrown (HT2.out.cell 0 2 wr.heap.size _ _ _ rfl rfl rfl)
          have t3 := cell_regrown (HT2.out.cell 0 3 wr.heap.size _ _ _ rfl rfl rfl)
          have t4 := cell_regrown (HT2.out.cell 0 4 wr.heap.size _ _ _ rfl rfl rfl)
          have hws : IntKind.i64.wrap (p.s - 1) = p.s - 1 := by rw [IntKind.wrap_i64]; omega
          rcases okA_ways i z y p with ⟨ho, g1⟩ | ⟨ho, g1, g2⟩ | ⟨g1, g2, ⟨hy, ho⟩ | ⟨x, hy, ho⟩⟩
          · have HR := hide (H4.out ho)
            clear ho H4 HN hE hs
            refine wp_region_quiet_below (by kernel_rfl) (by kernel_rfl) ?_
            iterate 41
              refine wpQuiet_step (fun K hK => ?_)
              try subst hact
              go_simp
              try refine ite_of_not (by intro h; cases h) ?_
              generalize hact : ({ tmps := _, defers := _ } : Act) = aa
              refine hK aa ?_
              clear hK K
            try subst hact
            refine wpQuiet_nil ?_
            intro _ hw'
            obtain ⟨⟨dq, osq⟩, hw''⟩ := hw'
            subst hw''
            have HB3 := hide (HB2.out.on (below_regrown w2 dq osq))
            clear HB2 HT2 x0 x1 x2 x3 t0 t1 t2 t3 t4
            generalize Sort.grow (redrawn w2 dq) osq = w3 at *
            go_wp2_with fail
            go_ret
            exact ⟨by rw [HR.out]; rfl, HB3.out.2.2⟩
          · have HR := hide (H4.out ho)
            clear ho H4 HN hE hs
            refine wp_region_quiet_below (by kernel_rfl) (by kernel_rfl) ?_
            iterate 41
              refine wpQuiet_step (fun K hK => ?_)
              try subst hact
              go_simp
              try refine ite_of_not (by intro h; cases h) ?_
              generalize hact : ({ tmps := _, defers := _ } : Act) = aa
              refine hK aa ?_
              clear hK K
            try subst hact
            refine wpQuiet_nil ?_
            intro _ hw'
            obtain ⟨⟨dq, osq⟩, hw''⟩ := hw'
            subst hw''
            have HB3 := hide (HB2.out.on (below_regrown w2 dq osq))
            clear HB2 HT2 x0 x1 x2 x3 t0 t1 t2 t3 t4
            generalize Sort.grow (redrawn w2 dq) osq = w3 at *
            go_wp2_with fail
            go_ret
            exact ⟨by rw [HR.out]; rfl, HB3.out.2.2⟩
          · have hq0 : q = 0 := by
              rcases q with _ | k
              · rfl
              · obtain ⟨x, e, -⟩ := hE.out.2.2 k rfl
                rw [hy] at e
                cases e
            have HN' := hide (HN.out ho)
            clear ho H4 HN hE hy hs
            subst hq0
            refine wp_region_quiet_below (by kernel_rfl) (by kernel_rfl) ?_
            iterate 41
              refine wpQuiet_step (fun K hK => ?_)
              try subst hact
              go_simp
              try refine ite_of_not (by intro h; cases h) ?_
              generalize hact : ({ tmps := _, defers := _ } : Act) = aa
              refine hK aa ?_
              clear hK K
            try subst hact
            refine wpQuiet_nil ?_
            intro _ hw'
            obtain ⟨⟨dq, osq⟩, hw''⟩ := hw'
            subst hw''
            have HB3 := hide (HB2.out.on (below_regrown w2 dq osq))
            clear HB2 HT2 x0 x1 x2 x3 t0 t1 t2 t3 t4
            generalize Sort.grow (redrawn w2 dq) osq = w3 at *
            go_wp2_with fail
            exact ⟨⟨0 + 1, some p, by omega, by simp, HN', HB3⟩, by simp [intOf]; omega⟩
          · obtain ⟨k, hqk⟩ : ∃ k, q = k + 1 := ⟨q - 1, by
              rcases q with _ | k
              · have := hE.out.2.1 rfl
                rw [hy] at this
                cases this
              · omega⟩
            subst hqk
            obtain ⟨x', hx1, hx⟩ := hE.out.2.2 k rfl
            obtain rfl : x = x' := Option.some.inj (hy.symm.trans hx1)
            obtain ⟨A', hA', f0, f1, f2, f3, f4⟩ := HP.out.below HB2.out.2.2 k x hx
            cases hA'
            have y0 := cell_regrown f0
            have y1 := cell_regrown f1
            have y2 := cell_regrown f2
            have y3 := cell_regrown f3
            have y4 := cell_regrown f4
            have hwk : IntKind.i64.wrap (k : Int) = (k : Int) := by rw [IntKind.wrap_i64]; omega
            have hk0 : (0 : Int) ≤ (k : Int) := by omega
            have hkl : (k : Int) < (P.length : Int) := by omega
            clear f0 f1 f2 f3 f4 hx hx1 hE hy
            rcases ho with ⟨g3, ho⟩ | ⟨g3, g4, ho⟩ | ⟨g3, g4, ho⟩
            · have HR := hide (H4.out ho)
              clear ho H4 HN hs
              refine wp_region_quiet_below (by kernel_rfl) (by kernel_rfl) ?_
              iterate 41
                refine wpQuiet_step (fun K hK => ?_)
                try subst hact
                go_simp
                try refine ite_of_not (by intro h; cases h) ?_
                generalize hact : ({ tmps := _, defers := _ } : Act) = aa
                refine hK aa ?_
                clear hK K
              try subst hact
              refine wpQuiet_nil ?_
              intro _ hw'
              obtain ⟨⟨dq, osq⟩, hw''⟩ := hw'
              subst hw''
              have HB3 := hide (HB2.out.on (below_regrown w2 dq osq))
              clear HB2 HT2 x0 x1 x2 x3 t0 t1 t2 t3 t4 y0 y1 y2 y3 y4
              generalize Sort.grow (redrawn w2 dq) osq = w3 at *
              go_wp2_with fail
              go_ret
              exact ⟨by rw [HR.out]; rfl, HB3.out.2.2⟩
            · have HR := hide (H4.out ho)
              clear ho H4 HN hs
              refine wp_region_quiet_below (by kernel_rfl) (by kernel_rfl) ?_
              iterate 41
                refine wpQuiet_step (fun K hK => ?_)
                try subst hact
                go_simp
                try refine ite_of_not (by intro h; cases h) ?_
                generalize hact : ({ tmps := _, defers := _ } : Act) = aa
                refine hK aa ?_
                clear hK K
              try subst hact
              refine wpQuiet_nil ?_
              intro _ hw'
              obtain ⟨⟨dq, osq⟩, hw''⟩ := hw'
              subst hw''
              have HB3 := hide (HB2.out.on (below_regrown w2 dq osq))
              clear HB2 HT2 x0 x1 x2 x3 t0 t1 t2 t3 t4 y0 y1 y2 y3 y4
              generalize Sort.grow (redrawn w2 dq) osq = w3 at *
              go_wp2_with fail
              go_ret
              exact ⟨by rw [HR.out]; rfl, HB3.out.2.2⟩
            · have HN' := hide (HN.out ho)
              clear ho H4 HN hs
              refine wp_region_quiet_below (by kernel_rfl) (by kernel_rfl) ?_
              iterate 41
                refine wpQuiet_step (fun K hK => ?_)
                try subst hact
                go_simp
                try refine ite_of_not (by intro h; cases h) ?_
                generalize hact : ({ tmps := _, defers := _ } : Act) = aa
                refine hK aa ?_
                clear hK K
              try subst hact
              refine wpQuiet_nil ?_
              intro _ hw'
              obtain ⟨⟨dq, osq⟩, hw''⟩ := hw'
              subst hw''
              have HB3 := hide (HB2.out.on (below_regrown w2 dq osq))
              clear HB2 HT2 x0 x1 x2 x3 t0 t1 t2 t3 t4 y0 y1 y2 y3 y4
              generalize Sort.grow (redrawn w2 dq) osq = w3 at *
              go_wp2_with fail
              exact ⟨⟨k + 1 + 1, some p, by omega, by simp, HN', HB3⟩, by simp [intOf]; omega⟩
      · skip
        have hE' := hE.out.1
        rw [List.drop_of_length_le (by omega)] at hE'
        have HAE := hide (HZ.out hE')
        clear hE' hE
        go_upto_region 16 with fail
        go_cut [100] from 25 (fun s100 wx => s100 = .bool (errQ s P != 0) ∧ Blks w wx ([] ++ [cG i z s oa P.length ca v od D.length cd l u 61]))
        case first =>
          rcases errQ_ways s P with ⟨hn, e⟩ | ⟨n, x, hn, hx, ho⟩
          · have HE := hide e
            have g1 : decide ((0 : Int) < (P.length : Int)) = false := by rw [hn]; rfl
            have g0 : ¬ 0 < P.length := by omega
            have z3 := cell_regrown x3
            have z2 := cell_regrown x2
            clear e hn x0 x1 x2 x3 x4 x5 x6 x7
            refine wp_region_quiet_below (by kernel_rfl) (by kernel_rfl) ?_
            iterate 18
              refine wpQuiet_step (fun K hK => ?_)
              try subst hact
              go_simp
              try refine ite_of_not (by intro h; cases h) ?_
              generalize hact : ({ tmps := _, defers := _ } : Act) = aa
              refine hK aa ?_
              clear hK K
            try subst hact
            refine wpQuiet_nil ?_
            intro _ hw'
            obtain ⟨⟨dq, osq⟩, hw''⟩ := hw'
            subst hw''
            go_wp2_with fail
            go_meet
            case rel => exact ⟨by rw [HE.out]; rfl, HB.out.on (below_regrown wr dq osq)⟩
          · obtain ⟨A, hA, e0, e1, e2, e3, e4⟩ := HP.out.below HB.out.2.2 n x hx
            have HHA := hide hA
            have g1 : decide ((0 : Int) < (P.length : Int)) = true := by simp; omega
            have g0 : 0 < P.length := by omega
            have hwr : IntKind.i64.wrap ((P.length : Int) - 1) = (n : Int) := by rw [IntKind.wrap_i64]; omega
            have hk0 : (0 : Int) ≤ (n : Int) := by omega
            have hkl : (n : Int) < (P.length : Int) := by omega
            rw [hA] at x3
            have z3 := cell_regrown x3
            have z2 := cell_regrown x2
            have y2 := cell_regrown e2
            clear hn hx hA e0 e1 e2 e3 e4 x0 x1 x2 x3 x4 x5 x6 x7
            rcases ho with ⟨g2, e⟩ | ⟨g2, e⟩
            all_goals
              have HE := hide e
              clear e
              refine wp_region_quiet_below (by kernel_rfl) (by kernel_rfl) ?_
              iterate 18
                refine wpQuiet_step (fun K hK => ?_)
                try subst hact
                go_simp
                try refine ite_of_not (by intro h; cases h) ?_
                generalize hact : ({ tmps := _, defers := _ } : Act) = aa
                refine hK aa ?_
                clear hK K
              try subst hact
              refine wpQuiet_nil ?_
              intro _ hw'
              obtain ⟨⟨dq, osq⟩, hw''⟩ := hw'
              subst hw''
              go_wp2_with fail
              go_meet
              case rel => exact ⟨by rw [HE.out]; rfl, HB.out.on (below_regrown wr dq osq)⟩
        case rest =>
          obtain ⟨rfl, hbk⟩ := hcut
          have HK := hide hbk
          clear hbk HB x0 x1 x2 x3 x4 x5 x6 x7
          have x4 := HK.out.cell 0 4 w.heap.size _ _ _ rfl rfl rfl
          have x5 := HK.out.cell 0 5 w.heap.size _ _ _ rfl rfl rfl
          cases hQ : (errQ s P != 0)
          · have hQ0 : errQ s P = 0 := by simpa using hQ
            have HR := hide (HC3'.out (by rw [HAE.out, hQ0]))
            clear hQ hQ0 HAE HC2' HC3'
            go_wp2_with fail
            refine (HCD.out _ (HD.out.below HK.out.2.2)).mono ?_
            rintro e w5 ⟨rfl, hb⟩
            have HK5 := hide (HK.out.on hb)
            clear hb HK x4 x5
            have x6 := HK5.out.cell 0 6 w.heap.size _ _ _ rfl rfl rfl
            have x7 := HK5.out.cell 0 7 w.heap.size _ _ _ rfl rfl rfl
            by_cases hX : X = 0
            · subst hX
              have HR' := hide (HR.out.trans (if_pos rfl))
              clear HR
              rcases errB_ways l u with ⟨b1, e⟩ | ⟨b1, b2, e⟩ | ⟨b1, b2, e⟩
              all_goals
                have HF := hide (HR'.out.trans e)
                clear e HR'
                go_wp2_with (go_at_call 60; refine (between_any _ _ _ _).mono ?_; rintro e w' ⟨rfl, rfl⟩; first | rw [b1] | rw [b2])
                go_ret
                exact ⟨by rw [HF.out]; rfl, HK5.out.2.2⟩
            · have hX' : (X == 0) = false := by simpa using hX
              have HR' := hide (HR.out.trans (if_neg hX))
              clear HR hX
              go_wp2_with fail
              go_ret
              exact ⟨by rw [HR'.out]; rfl, HK5.out.2.2⟩
          · have hQ4 : errQ s P = 4 := by
              rcases errQ_ways s P with ⟨-, e⟩ | ⟨n, x, -, -, ⟨-, e⟩ | ⟨-, e⟩⟩
              · rw [e] at hQ; cases hQ
              · rw [e] at hQ; cases hQ
              · exact e
            have HR := hide ((HC2'.out (by rw [HAE.out, hQ4]; decide)).trans (HAE.out.trans hQ4))
            clear hQ hQ4 HAE HC2' HC3'
            go_wp2_with fail
            go_ret
            exact ⟨by rw [HR.out]; rfl, HK.out.2.2⟩
end Go.Proofs.Ytcakfmpckbmdeac
