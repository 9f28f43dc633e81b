/-
  'checkAlone' (package gate): what was let through alone, one by one.
-/
import Derived.Test.YtlnmheooicancaaJ1
import Derived.Lib.QuietBelow
namespace Go.Proofs.Ytlnmheooicancaa
open Go.RowKit

theorem ite_of_not {c : Prop} [Decidable c] {a b : Prop} (hc : ¬ c) (hb : b) : if c then a else b := by
  rw [if_neg hc]
  exact hb

/-- may a tap stand there, behind the last one? -/
def okA (i z : Int) (l : Option TP) (p : TP) : Bool := (p.g == i && p.z == z) && (match l with | none => true | some y => folB y p)

/-- what is wrong with what was let through alone, one by one -/
def errA (i z : Int) : Option TP → List TP → Int
  | _, [] => 0
  | l, p :: r => if chkT p = 0 then (if okA i z l p = true then errA i z (some p) r else 4) else chkT p

theorem errA_ways (i z : Int) (l : Option TP) (p : TP) (r : List TP) : ((chkT p != 0) = true ∧ errA i z l (p :: r) = chkT p) ∨ (chkT p = 0 ∧ okA i z l p = false ∧ errA i z l (p :: r) = 4) ∨ (chkT p = 0 ∧ okA i z l p = true ∧ errA i z l (p :: r) = errA i z (some p) r) := by
  rw [errA]
  by_cases h : chkT p = 0
  · right
    cases okA i z l p <;> simp [h]
  · left; simp [h]

/-- is the last one's Seq the gate's? -/
def errQ (s : Int) (A : List TP) : Int := match A.getLast? with
  | none => 0
  | some p => if p.s = s then 0 else 4

/-- what is wrong with what was let through alone -/
def aloneE (i z s : Int) (A : List TP) : Int := if errA i z none A = 0 then errQ s A else errA i z none A

set_option maxHeartbeats 3200000 in
theorem checkAlone_any (i z s : Int) (oa : Option Addr) (P : List TP) (ca : Nat) (v : Int) (od : Option Addr) (nd cd : Nat) (l u : Int) (w : World) (hP : TapsAt w oa P) (hlen : P.length ≤ 12) :
    Calls Try.prog 13 #[gtV i z s oa P.length ca v od nd cd l u] w fun e w' => e = .returned (.int .i64 (aloneE i z s P)) ∧ Below w.heap.size w w' := by
  have HG := hide ((Blks.nil w).more (cG i z s oa P.length ca v od nd cd l u 48) (by simp))
  have HP := hide hP
  have HA : Hid (errA i z none P ≠ 0 → aloneE i z s P = errA i z none P) := fun h => by rw [aloneE, if_neg h]
  have HZ : Hid (errA i z none P = 0 → aloneE i z s P = errQ s P) := fun h => by rw [aloneE, if_pos h]
  generalize aloneE i z s P = R at *
  clear hP
  go_enter Try.func13, Try.ntmps13
  go_wp2_with fail
  go_loopw [11] (fun j wr => ∃ (q : Nat) (y : Option TP), q ≤ P.length ∧ j = .int .i64 q ∧ Hid (errA i z none P = errA i z y (P.drop q) ∧ (q = 0 → y = none) ∧ (∀ k, q = k + 1 → ∃ x, y = some x ∧ P[k]? = some x ∧ 0 ≤ x.s ∧ x.s ≤ 99)) ∧ Hid (Blks w wr ([] ++ [cG i z s oa P.length ca v od nd cd l u 48]))) (fun j _ => P.length - (intOf j).toNat)
  case atStart => exact ⟨0, none, Nat.zero_le _, rfl, ⟨by simp, fun _ => rfl, fun k h => by omega⟩, HG⟩
  case round =>
    obtain ⟨q, y, hq, rfl, hE, HB⟩ := hrel
    have x0 := HB.out.cell 0 0 w.heap.size _ _ _ rfl rfl rfl
    have x1 := HB.out.cell 0 1 w.heap.size _ _ _ rfl rfl rfl
    have x2 := HB.out.cell 0 2 w.heap.size _ _ _ rfl rfl rfl
    have x3 := HB.out.cell 0 3 w.heap.size _ _ _ rfl rfl rfl
    by_cases hgo : q < P.length
    · obtain ⟨p, hp⟩ : ∃ p, P[q]? = some p := ⟨P[q], by simp [hgo]⟩
      obtain ⟨A, rfl, e0, e1, e2, e3, e4⟩ := HP.out.below HB.out.2.2 q p hp
      have HX := hide hp
      have hE' := hE.out.1
      rw [drop_cons hp] at hE'
      have hw := errA_ways i z y p (P.drop (q + 1))
      rw [← hE'] at hw
      clear hE' hp
      go_wp2_with fail
      have HT := hide ((Blks.nil wr).more (cP p.a p.g p.s p.m p.z 35) (by simp))
      refine (checkP_any p.a p.g p.s p.m p.z _).mono ?_
      rintro e w2 ⟨rfl, hb⟩
      have HT2 := hide (HT.out.on hb)
      have HB2 := hide (HB.out.on HT2.out.2.2)
      clear hb HT HB x0 x1 x2 x3 e0 e1 e2 e3 e4
      have hk : chkP p.a p.g p.s p.m p.z = chkT p := rfl
      rw [hk]
      clear hk
      have HC := hide (fun (h : chkT p = 0) => chkP_right (a := p.a) (g := p.g) (s := p.s) (m := p.m) (z := p.z) h)
      generalize chkT p = X at *
      rcases hw with ⟨h1, h2⟩ | h1
      · have HR := hide ((HA.out (by rw [h2]; simpa using h1)).trans h2)
        clear h2
        go_wp2_with fail
        go_ret
        exact ⟨by rw [HR.out]; rfl, HB2.out.2.2⟩
      · have hX : X = 0 := by rcases h1 with h | h <;> exact h.1
        subst hX
        have hs := (HC.out rfl).2.2.1
        replace h1 : (okA i z y p = false ∧ errA i z none P = 4) ∨ (okA i z y p = true ∧ errA i z none P = errA i z (some p) (P.drop (q + 1))) := by
          rcases h1 with h | h
          · exact Or.inl h.2
          · exact Or.inr h.2
        clear HC
        go_wp2_with fail
        have x0 := cell_regrown (HB2.out.cell 0 0 w.heap.size _ _ _ rfl rfl rfl)
        have x1 := cell_regrown (HB2.out.cell 0 1 w.heap.size _ _ _ rfl rfl rfl)
        have x2 := cell_regrown (HB2.out.cell 0 2 w.heap.size _ _ _ rfl rfl rfl)
        have x3 := cell_regrown (HB2.out.cell 0 3 w.heap.size _ _ _ rfl rfl rfl)
        have x4 := cell_regrown (HB2.out.cell 0 4 w.heap.size _ _ _ rfl rfl rfl)
        have x5 := cell_regrown (HB2.out.cell 0 5 w.heap.size _ _ _ rfl rfl rfl)
        have x6 := cell_regrown (HB2.out.cell 0 6 w.heap.size _ _ _ rfl rfl rfl)
        have x7 := cell_regrown (HB2.out.cell 0 7 w.heap.size _ _ _ rfl rfl rfl)
        have t0 := cell_regrown (HT2.out.cell 0 0 wr.heap.size _ _ _ rfl rfl rfl)
        have t1 := cell_regrown (HT2.out.cell 0 1 wr.heap.size _ _ _ rfl rfl rfl)
        have t2 := cell_regrown (HT2.out.cell 0 2 wr.heap.size _ _ _ rfl rfl rfl)
        have t3 := cell_regrown (HT2.out.cell 0 3 wr.heap.size _ _ _ rfl rfl rfl)
        have t4 := cell_regrown (HT2.out.cell 0 4 wr.heap.size _ _ _ rfl rfl rfl)
        have cO : ∀ d os, Calls Try.prog 29 #[gtV i z s (some A) P.length ca v od nd cd l u, tp p.a p.g p.s p.m p.z] (Sort.grow (redrawn w2 d) os) fun e w'' => e = .returned (.bool (p.g == i && p.z == z)) ∧ ∃ p : Regrown, w'' = Sort.grow (redrawn w2 p.d) p.os :=
          fun d os => Calls.regrown_of (owns_any i z s (some A) P.length ca v od nd cd l u p.a p.g p.s p.m p.z _)
        cases ho : (p.g == i && p.z == z)
        · have h4 : errA i z none P = 4 := by
            rcases h1 with h | h
            · exact h.2
            · simp [okA, ho] at h
          have HR := hide ((HA.out (by rw [h4]; decide)).trans h4)
          clear h1 h4
          rw [ho] at cO
          clear ho
          refine wp_region_quiet_below (by kernel_rfl) (by kernel_rfl) ?_
          iterate 20
            refine wpQuiet_step (fun K hK => ?_)
            try subst hact
            go_simp
            try refine ite_of_not (by intro h; cases h) ?_
            first
              | (generalize hact : ({ tmps := _, defers := _ } : Act) = aa
                 refine hK aa ?_
                 clear hK K)
              | (apply Exists.intro
                 refine ⟨fun _ => ?_, ?_⟩
                 first | exact cO _ _
                 generalize hact : ({ tmps := _, defers := _ } : Act) = aa
                 refine hK aa ?_
                 clear hK K)
          try subst hact
          refine wpQuiet_nil ?_
          intro _ hw'
          obtain ⟨⟨dq, osq⟩, hw''⟩ := hw'
          subst hw''
          have HB3 := hide (HB2.out.on (below_regrown w2 dq osq))
          clear x0 x1 x2 x3 x4 x5 x6 x7 t0 t1 t2 t3 t4 cO HB2 HT2
          go_wp2_with fail
          go_ret
          exact ⟨by rw [HR.out]; rfl, HB3.out.2.2⟩
        · rw [ho] at cO
          have HO := hide ho
          have H1 := hide h1
          clear ho h1
          rcases q with _ | k
          · obtain rfl : y = none := hE.out.2.1 rfl
            have HN : Hid (errA i z none P = errA i z (some p) (P.drop (0 + 1)) ∧ (0 + 1 = 0 → some p = none) ∧ (∀ k, 0 + 1 = k + 1 → ∃ x, some p = some x ∧ P[k]? = some x ∧ 0 ≤ x.s ∧ x.s ≤ 99)) := by
              refine ⟨?_, fun h => by omega, fun k hk => ⟨p, rfl, ?_, by omega, by omega⟩⟩
              · rcases H1.out with h | h
                · simp [okA, HO.out] at h
                · exact h.2
              · obtain rfl : k = 0 := by omega
                exact HX.out
            clear H1 HO hE
            refine wp_region_quiet_below (by kernel_rfl) (by kernel_rfl) ?_
            iterate 20
              refine wpQuiet_step (fun K hK => ?_)
              try subst hact
              go_simp
              try refine ite_of_not (by intro h; cases h) ?_
              first
                | (generalize hact : ({ tmps := _, defers := _ } : Act) = aa
                   refine hK aa ?_
                   clear hK K)
                | (apply Exists.intro
                   refine ⟨fun _ => ?_, ?_⟩
                   first | exact cO _ _
                   generalize hact : ({ tmps := _, defers := _ } : Act) = aa
                   refine hK aa ?_
                   clear hK K)
            try subst hact
            refine wpQuiet_nil ?_
            intro _ hw'
            obtain ⟨⟨dq, osq⟩, hw''⟩ := hw'
            subst hw''
            have HB3 := hide (HB2.out.on (below_regrown w2 dq osq))
            clear x0 x1 x2 x3 x4 x5 x6 x7 t0 t1 t2 t3 t4 cO HB2 HT2
            go_wp2_with fail
            exact ⟨⟨0 + 1, some p, by omega, by simp, HN, HB3⟩, by simp [intOf]; omega⟩
          · obtain ⟨x, rfl, hx, hs0, hs1⟩ := hE.out.2.2 k rfl
            obtain ⟨A', hA', f0, f1, f2, f3, f4⟩ := HP.out.below HB2.out.2.2 k x hx
            cases hA'
            have y0 := cell_regrown f0
            have y1 := cell_regrown f1
            have y2 := cell_regrown f2
            have y3 := cell_regrown f3
            have y4 := cell_regrown f4
            have cF : ∀ d os, Calls Try.prog 30 #[tp x.a x.g x.s x.m x.z, tp p.a p.g p.s p.m p.z] (Sort.grow (redrawn w2 d) os) fun e w'' => e = .returned (.bool (folB x p)) ∧ ∃ p : Regrown, w'' = Sort.grow (redrawn w2 p.d) p.os :=
              fun d os => Calls.regrown_of (follows_any x p _ hs0 hs1)
            have HX' := hide hx
            clear f0 f1 f2 f3 f4 hx
            have hwk : IntKind.i64.wrap (k : Int) = (k : Int) := by rw [IntKind.wrap_i64]; omega
            have hk0 : (0 : Int) ≤ (k : Int) := by omega
            have hkl : (k : Int) < (P.length : Int) := by omega
            cases hf : folB x p
            all_goals
              rw [hf] at cF
              have HF := hide hf
              clear hf
            · have h4 : errA i z none P = 4 := by
                rcases H1.out with h | h
                · exact h.2
                · simp [okA, HO.out, HF.out] at h
              have HR := hide ((HA.out (by rw [h4]; decide)).trans h4)
              clear H1 HO h4 hE HF
              refine wp_region_quiet_below (by kernel_rfl) (by kernel_rfl) ?_
              iterate 20
                refine wpQuiet_step (fun K hK => ?_)
                try subst hact
                go_simp
                try refine ite_of_not (by intro h; cases h) ?_
                first
                  | (generalize hact : ({ tmps := _, defers := _ } : Act) = aa
                     refine hK aa ?_
                     clear hK K)
                  | (apply Exists.intro
                     refine ⟨fun _ => ?_, ?_⟩
                     first | exact cO _ _ | exact cF _ _
                     generalize hact : ({ tmps := _, defers := _ } : Act) = aa
                     refine hK aa ?_
                     clear hK K)
              try subst hact
              refine wpQuiet_nil ?_
              intro _ hw'
              obtain ⟨⟨dq, osq⟩, hw''⟩ := hw'
              subst hw''
              have HB3 := hide (HB2.out.on (below_regrown w2 dq osq))
              clear x0 x1 x2 x3 x4 x5 x6 x7 t0 t1 t2 t3 t4 cO cF HB2 HT2
              go_wp2_with fail
              go_ret
              exact ⟨by rw [HR.out]; rfl, HB3.out.2.2⟩
            · have HN : Hid (errA i z none P = errA i z (some p) (P.drop (k + 1 + 1)) ∧ (k + 1 + 1 = 0 → some p = none) ∧ (∀ j, k + 1 + 1 = j + 1 → ∃ x, some p = some x ∧ P[j]? = some x ∧ 0 ≤ x.s ∧ x.s ≤ 99)) := by
                refine ⟨?_, fun h => by omega, fun j hj => ⟨p, rfl, ?_, by omega, by omega⟩⟩
                · rcases H1.out with h | h
                  · simp [okA, HO.out, HF.out] at h
                  · exact h.2
                · obtain rfl : j = k + 1 := by omega
                  exact HX.out
              clear H1 HO hE
              refine wp_region_quiet_below (by kernel_rfl) (by kernel_rfl) ?_
              iterate 20
                refine wpQuiet_step (fun K hK => ?_)
                try subst hact
                go_simp
                try refine ite_of_not (by intro h; cases h) ?_
                first
                  | (generalize hact : ({ tmps := _, defers := _ } : Act) = aa
                     refine hK aa ?_
                     clear hK K)
                  | (apply Exists.intro
                     refine ⟨fun _ => ?_, ?_⟩
                     first | exact cO _ _ | exact cF _ _
                     generalize hact : ({ tmps := _, defers := _ } : Act) = aa
                     refine hK aa ?_
                     clear hK K)
              try subst hact
              refine wpQuiet_nil ?_
              intro _ hw'
              obtain ⟨⟨dq, osq⟩, hw''⟩ := hw'
              subst hw''
              have HB3 := hide (HB2.out.on (below_regrown w2 dq osq))
              clear x0 x1 x2 x3 x4 x5 x6 x7 t0 t1 t2 t3 t4 cO cF HB2 HT2
              go_wp2_with fail
              exact ⟨⟨k + 1 + 1, some p, by omega, by simp, HN, HB3⟩, by simp [intOf]; omega⟩
    · have hE' := hE.out.1
      rw [List.drop_of_length_le (by omega)] at hE'
      have HR := hide (HZ.out hE')
      clear hE' hE
      rcases hn : P.length with _ | n
      · have hL0 : P = [] := List.eq_nil_of_length_eq_zero hn
        subst hL0
        have H0 : Hid (errQ s [] = 0) := rfl
        simp only [List.length_nil] at x3 HB hq hgo ⊢
        obtain rfl : q = 0 := by omega
        go_wp2_with fail
        go_region
        go_wp2_with fail
        go_ret
        exact ⟨by rw [HR.out, H0.out]; rfl, (HB.out.on (Below.refl _ _).drew).2.2⟩
      · obtain ⟨x, hx⟩ : ∃ x, P[n]? = some x := ⟨P[n]'(by omega), by simp [hn]⟩
        have HQ : Hid (errQ s P = if x.s = s then 0 else 4) := by
          show _ = _
          rw [errQ, List.getLast?_eq_getElem?, hn, Nat.add_sub_cancel, hx]
        obtain ⟨A, rfl, e0, e1, e2, e3, e4⟩ := HP.out.below HB.out.2.2 n x hx
        clear hx
        rw [hn] at x3 hq hgo hlen HB
        obtain rfl : q = n + 1 := by omega
        by_cases hs : x.s = s
        · have h0 : (x.s != s) = false := by simpa using hs
          have HF := hide (HR.out.trans (HQ.out.trans (if_pos hs)))
          clear hs
          go_wp2_with fail
          go_region
          go_wp2_with fail
          go_ret
          exact ⟨by rw [HF.out]; rfl, (HB.out.on (Below.refl _ _).drew).2.2⟩
        · have h0 : (x.s != s) = true := by simpa using hs
          have HF := hide (HR.out.trans (HQ.out.trans (if_neg hs)))
          clear hs
          go_wp2_with fail
          go_region
          go_wp2_with fail
          go_ret
          exact ⟨by rw [HF.out]; rfl, (HB.out.on (Below.refl _ _).drew).2.2⟩
end Go.Proofs.Ytlnmheooicancaa
