/-
  The walk of MergeNone.
-/
import Derived.Test.YtefdnddaggpgkaaF15
import Derived.Test.YtefdnddaggpgkaaF16
import Derived.Test.YtefdnddaggpgkaaF12
import Derived.Test.YtefdnddaggpgkaaW6
import Derived.Lib.QuietBelow
namespace Go.Proofs.Ytefdnddaggpgkaa
open Go.RowKit

theorem same_ledM {w : World} {x y : Value} {T : List TK} {P : List TP} {V : List Int} (hx : LedV w x T P V) (hy : LedV w y T P V) (l1 : T.length ≤ 100) (l2 : P.length ≤ 100) (l3 : V.length ≤ 100) : Calls Try.prog 19 #[x, y] w fun e w' => e = .returned (.bool true) ∧ Below w.heap.size w w' := by
  obtain ⟨o1, c1, o2, c2, o3, c3, rfl, a1, a2, a3, -⟩ := hx.opened
  obtain ⟨q1, d1, q2, d2, q3, d3, rfl, b1, b2, b3, -⟩ := hy.opened
  exact sameLedger_same T P V o1 o2 o3 q1 q2 q3 c1 c2 c3 d1 d2 d3 w a1 a2 a3 b1 b2 b3 l1 l2 l3

set_option maxHeartbeats 12800000 in
set_option maxRecDepth 100000 in
theorem mergeNone_walk (o1 o2 o3 : Option Addr) (T : List TK) (P : List TP) (V : List Int) (c1 c2 c3 : Nat) (ot : Option Addr) (N : List TP) (ct : Nat) (w : World) (hled : LedV w (lg o1 o2 o3 T.length c1 P.length c2 V.length c3) T P V) (hl : LensOk T P V) (hN : TapsAt w ot N) (hlN : N.length ≤ 9223372036854775807) (hnt : ot = none → ct = 0) :
    Calls Try.prog 6 #[lg o1 o2 o3 T.length c1 P.length c2 V.length c3, .slice ot N.length ct] w fun e w' => e = .returned (.bool true) ∧ Below w.heap.size w w' := by
  have HG := hide ((Blks.nil w).more (.cells #[.slice o1 T.length c1, .slice o2 P.length c2, .slice o3 V.length c3] 26) (by simp))
  have HI := hide (fun W (h : LedV W (lg o1 o2 o3 T.length c1 P.length c2 V.length c3) T P V) => into_any T P V [] o1 o2 o3 none c1 c2 c3 0 W h hl (fun i p h => by simp at h) (by simp) (fun _ => rfl))
  have HO := hide (fun W (h : TapsAt W ot N) => order_any ot ct N W h hlN hnt)
  have HLed := hide hled
  have HNt := hide hN
  have HO2 := hide (fun h => And.intro (ordR_again (L := N) h) (And.intro (ordR_len (L := N) h) (And.intro (fun i p q => ordR_bef (L := N) h (i := i) (p := p) (q := q)) (ordE_right (L := N) h).1)))
  clear hled hN
  go_enter Try.func6, Try.ntmps6
  go_wp2_with fail
  refine (HO.out _ (HNt.out.below HG.out.2.2)).mono ?_
  rintro e w1 ⟨⟨oo, no, co, rfl, hTo, -⟩, hb⟩
  obtain ⟨rfl, to1, to2, to3⟩ := hTo.eqs
  have HT1 := hide (And.intro to1 to3)
  have HG1 := hide (HG.out.on hb)
  clear hb HG HO hTo to1 to2 to3
  generalize ordE N = E1 at *
  generalize ordR N = O at *
  go_wp2_with fail
  refine (mergeBegun_any _).mono ?_
  rintro e w2 ⟨rfl, hb⟩
  have HG2 := hide (HG1.out.on hb)
  have HT2 := hide (And.intro (HT1.out.1.below hb) HT1.out.2)
  clear hb HG1 HT1
  rcases hE1 : (E1 == 0) with _ | _
  · clear HO2
    have l0 := HG2.out.cell 0 0 w.heap.size _ _ _ rfl rfl rfl
    have l1 := HG2.out.cell 0 1 w.heap.size _ _ _ rfl rfl rfl
    have l2 := HG2.out.cell 0 2 w.heap.size _ _ _ rfl rfl rfl
    go_wp2_with fail
    refine (HI.out _ (HLed.out.below HG2.out.2.2)).mono ?_
    rintro e w5 ⟨⟨lv, od, nd, cd, rfl, ⟨v1, v2, v3, rfl, ⟨⟨a1, x1, rfl, ta⟩, -⟩, ⟨⟨a2, x2, rfl, tb⟩, -⟩, ⟨⟨a3, x3, rfl, tc⟩, -⟩⟩, hD, -⟩, hb⟩
    have hLa : LedV w5 (lg a1 a2 a3 (intoT T P V []).length x1 (intoP T P V []).length x2 (intoV T P V []).length x3) (intoT T P V []) (intoP T P V []) (intoV T P V []) := ⟨_, _, _, rfl, ⟨a1, x1, rfl, ta⟩, ⟨a2, x2, rfl, tb⟩, ⟨a3, x3, rfl, tc⟩⟩
    obtain ⟨rfl, -⟩ := hD.eqs
    have HA5 := hide hLa
    have HG5 := hide (HG2.out.on hb)
    clear hb HG2 l0 l1 l2 ta tb tc hLa hD
    have HF := hide (And.intro (fun h => into_err (T := T) (P := P) (V := V) (M := []) h) (And.intro (fun h => into_lens (T := T) (P := P) (V := V) (M := []) h) (And.intro (fun h => into_none (T := T) (P := P) (V := V) h) (fun h => into_small (T := T) (P := P) (V := V) (M := []) h))))
    generalize intoE T P V [] = E at *
    generalize intoT T P V [] = T2 at *
    generalize intoP T P V [] = P2 at *
    generalize intoV T P V [] = V2 at *
    generalize intoD T P V [] = D at *
    rcases hE : (E != 0) with _ | _
    rotate_left 1
    · obtain ⟨rfl, rfl, rfl, rfl⟩ := HF.out.1 (by simpa using hE)
      go_wp2_with fail
      go_ret
      exact ⟨by simp, HG5.out.2.2.alloc HG5.out.2.2.size _⟩
    · obtain rfl : E = 0 := by simpa using hE
      clear hE
      have HN := hide HF.out.2.2.1
      have hlens := HF.out.2.1 rfl
      obtain ⟨hs1, hs2, hs3', -⟩ := HF.out.2.2.2 rfl
      have hs3 : V.length ≤ 60 := by omega
      clear hs3'
      clear HF
      simp only [List.length_nil, Nat.add_zero] at hlens
      have HLens := hide hlens
      clear hlens
      go_wp2_with fail
      have hb := (Below.refl w5.heap.size w5).alloc (Nat.le_refl _) (cL a1 a2 a3 T2.length x1 P2.length x2 V2.length x3 26)
      have HZ6 : Hid (Led3 (w5.alloc (cL a1 a2 a3 T2.length x1 P2.length x2 V2.length x3 26)) w5.heap.size a1 a2 a3 T2.length x1 P2.length x2 V2.length x3) := hide ⟨by simp [go_sem], by simp [go_sem], by simp [go_sem]⟩
      have HA6 := hide (HA5.out.below hb)
      have HG6 := hide (HG5.out.on hb)
      clear HA5 HG5 hb
      generalize w5.alloc (cL a1 a2 a3 T2.length x1 P2.length x2 V2.length x3 26) = w6 at *
      generalize w5.heap.size = bz at *
      go_loopw [12] (fun j wr => ∃ (r : Nat), (r + 1 ≤ P.length ∨ r = 0) ∧ j = .int .i64 ((r : Int) + 1) ∧ Hid (∀ i p q, i < r → P[i]? = some p → P[i + 1]? = some q → befP p q) ∧ Hid (Below w6.heap.size w6 wr)) (fun j _ => P.length + 1 - (intOf j).toNat)
      case atStart => exact ⟨0, .inr rfl, rfl, hide (fun i p q h => by omega), hide (Below.refl _ _)⟩
      case round =>
        obtain ⟨r, hr, rfl, HP, HBr⟩ := hrel
        have HG7 := hide (HG6.out.on HBr.out)
        have HA7 := hide (HA6.out.below HBr.out)
        have HZ7 := hide (HZ6.out.below HBr.out HZ6.out.lt)
        have l0 := HG7.out.cell 0 0 w.heap.size _ _ _ rfl rfl rfl
        have l1 := HG7.out.cell 0 1 w.heap.size _ _ _ rfl rfl rfl
        have l2 := HG7.out.cell 0 2 w.heap.size _ _ _ rfl rfl rfl
        obtain ⟨z0, z1, z2⟩ := HZ7.out
        by_cases hgo : r + 1 < P.length
        · obtain ⟨p, hp⟩ : ∃ p, P[r]? = some p := ⟨P[r], by simp⟩
          obtain ⟨q, hq⟩ : ∃ q, P[r + 1]? = some q := ⟨P[r + 1], by simp [hgo]⟩
          have hLV := HLed.out.below HG7.out.2.2
          obtain ⟨A, rfl, c0, c1', c2', c3', c4'⟩ := hLV.parts3.2.1.eqs.2.1 r p hp
          obtain ⟨A', hA', d0, d1, d2, d3, d4⟩ := hLV.parts3.2.1.eqs.2.1 (r + 1) q hq
          cases hA'
          have HX := hide (And.intro hp hq)
          clear hp hq hLV
          have hgi : (r : Int) + 1 < P.length := by omega
          have hw1 : IntKind.i64.wrap (r : Int) = (r : Int) := by rw [IntKind.wrap_i64]; omega
          have hn1 : ((r : Int) + 1).toNat = r + 1 := by omega
          have hg0 : (0 : Int) ≤ (r : Int) + 1 := by omega
          have hrP : (r : Int) < P.length := by omega
          have k1 := cell_regrown l1
          have k0 := cell_regrown l0
          have k2 := cell_regrown l2
          have m0 := cell_regrown c0
          have m1 := cell_regrown c1'
          have m2 := cell_regrown c2'
          have m3 := cell_regrown c3'
          have m4 := cell_regrown c4'
          have e0 := cell_regrown d0
          have e1 := cell_regrown d1
          have e2 := cell_regrown d2
          have e3 := cell_regrown d3
          have e4 := cell_regrown d4
          rcases hbf : befB p q with _ | _
          · have cB : ∀ d os, Calls Try.prog 22 #[tp p.a p.g p.s p.m p.z, tp q.a q.g q.s q.m q.z] (Sort.grow (redrawn wr d) os) fun e w'' => e = .returned (.bool false) ∧ ∃ p : Regrown, w'' = Sort.grow (redrawn wr p.d) p.os :=
              fun d os => Calls.regrown_of (by have h := isBefore_any p q (Sort.grow (redrawn wr d) os); rw [hbf] at h; exact h)
            clear hbf l0 l2 c0 c1' c2' c3' c4' d0 d1 d2 d3 d4
            go_wp2_with fail
            refine wp_region_quiet_below (by kernel_rfl) (by kernel_rfl) ?_
            repeat (quiet_step (exact cB _ _))
            refine wpQuiet_nil ?_
            intro _ hw'
            obtain ⟨⟨dq, osq⟩, hw''⟩ := hw'
            subst hw''
            have hbw := below_regrown wr dq osq
            have HG8 := hide (HG7.out.on hbw)
            have HZ8 := hide (HZ7.out.below hbw HZ7.out.lt)
            clear hbw cB k0 k1 k2 m0 m1 m2 m3 m4 e0 e1 e2 e3 e4 l1 z0 z1 z2 HG7 HZ7
            generalize Sort.grow (redrawn wr dq) osq = w8 at *
            have l1 := HG8.out.cell 0 1 w.heap.size _ _ _ rfl rfl rfl
            obtain ⟨z0, z1, z2⟩ := HZ8.out
            have hww : IntKind.i64.wrap ((D.length : Int) + (P2.length : Int)) = (P.length : Int) := by have := HLens.out; rw [IntKind.wrap_i64]; omega
            go_wp2_with fail
            go_ret
            exact ⟨by simp, HG8.out.2.2⟩
          · have cB : ∀ d os, Calls Try.prog 22 #[tp p.a p.g p.s p.m p.z, tp q.a q.g q.s q.m q.z] (Sort.grow (redrawn wr d) os) fun e w'' => e = .returned (.bool true) ∧ ∃ p : Regrown, w'' = Sort.grow (redrawn wr p.d) p.os :=
              fun d os => Calls.regrown_of (by have h := isBefore_any p q (Sort.grow (redrawn wr d) os); rw [hbf] at h; exact h)
            have HBf := hide (show befP p q from of_decide_eq_true hbf)
            clear hbf l0 l2 c0 c1' c2' c3' c4' d0 d1 d2 d3 d4
            go_wp2_with fail
            refine wp_region_quiet_below (by kernel_rfl) (by kernel_rfl) ?_
            repeat (quiet_step (exact cB _ _))
            refine wpQuiet_nil ?_
            intro _ hw'
            obtain ⟨⟨dq, osq⟩, hw''⟩ := hw'
            subst hw''
            have hbw := below_regrown wr dq osq
            have HB8 := hide (HBr.out.trans (hbw.mono HBr.out.size))
            clear hbw cB k0 k1 k2 m0 m1 m2 m3 m4 e0 e1 e2 e3 e4 l1 z0 z1 z2 HG7 HZ7 HBr
            generalize Sort.grow (redrawn wr dq) osq = w8 at *
            have hw2 : IntKind.i64.wrap ((r : Int) + 1 + 1) = (r : Int) + 1 + 1 := by rw [IntKind.wrap_i64]; omega
            go_wp2_with fail
            refine ⟨⟨r + 1, .inl (by omega), by simp, hide (fun i x y hi hx hy => ?_), HB8⟩, by simp [intOf]; omega⟩
            by_cases h : i = r
            · subst h
              have h1 := HX.out.1
              have h2 := HX.out.2
              rw [h1] at hx
              rw [h2] at hy
              cases hx
              cases hy
              exact HBf.out
            · exact HP.out i x y (by omega) hx hy
        · obtain ⟨rfl, rfl, rfl, rfl⟩ := HN.out (by trivial) (fun i p q hp hq => HP.out i p q (by have := (List.getElem?_eq_some_iff.1 hq).1; omega) hp hq)
          have hgi : ¬ (r : Int) + 1 < P2.length := by omega
          have HS := hide (same_ledM HA7.out (HLed.out.below HG7.out.2.2) (by omega) (by omega) (by omega))
          clear HN HP
          go_wp2_with fail
          refine HS.out.mono ?_
          rintro e w8 ⟨rfl, hb⟩
          go_wp2_with fail
          go_ret
          exact ⟨rfl, HG7.out.2.2.trans (hb.mono HG7.out.2.2.size)⟩
  · obtain rfl : E1 = 0 := by simpa using hE1
    clear hE1
    obtain ⟨⟨g1, g2⟩, g3, g4, g5⟩ := HO2.out rfl
    have HBf := hide g4
    have HO3 := hide (fun W (h : TapsAt W oo O) => order_any oo co O W h (by omega) HT2.out.2)
    rw [g1, g2] at HO3
    have hO72 : O.length ≤ 72 := by omega
    have hne : ((O.length : Int) != (N.length : Int)) = false := by rw [g3]; simp
    clear g1 g2 g3 g4 HO2
    go_wp2_with fail
    refine (HO3.out _ HT2.out.1).mono ?_
    rintro e w3 ⟨⟨op, np, cp, rfl, hTo, -⟩, hb⟩
    obtain ⟨rfl, to1, to2, to3⟩ := hTo.eqs
    have HG3 := hide (HG2.out.on hb)
    have HT3 := hide (HT2.out.1.below hb)
    have HS3 := hide (sameTaps_same O oo op co cp w3 HT3.out to1 (by omega))
    clear hb HG2 HT2 hTo to1 to2 to3 HO3
    go_wp2_with fail
    refine HS3.out.mono ?_
    rintro e w4 ⟨rfl, hb⟩
    have HG4 := hide (HG3.out.on hb)
    have HT4 := hide (HT3.out.below hb)
    clear hb HG3 HT3 HS3
    go_wp2_with fail
    go_loopw [9] (fun j wr => ∃ (r : Nat), (r + 1 ≤ O.length ∨ r = 0) ∧ j = .int .i64 ((r : Int) + 1) ∧ Hid (Below w4.heap.size w4 wr)) (fun j _ => O.length + 1 - (intOf j).toNat)
    case atStart => exact ⟨0, .inr rfl, rfl, hide (Below.refl _ _)⟩
    case round =>
      obtain ⟨r, hr, rfl, HBr⟩ := hrel
      by_cases hgo : r + 1 < O.length
      · obtain ⟨p, hp⟩ : ∃ p, O[r]? = some p := ⟨O[r], by simp⟩
        obtain ⟨q, hq⟩ : ∃ q, O[r + 1]? = some q := ⟨O[r + 1], by simp [hgo]⟩
        have hbf := HBf.out _ _ _ hp hq
        obtain ⟨A, rfl, c0, c1', c2', c3', c4'⟩ := (HT4.out.below HBr.out) r p hp
        obtain ⟨A', hA', d0, d1, d2, d3, d4⟩ := (HT4.out.below HBr.out) (r + 1) q hq
        cases hA'
        clear hp hq
        have hgi : (r : Int) + 1 < O.length := by omega
        have hw1 : IntKind.i64.wrap (r : Int) = (r : Int) := by rw [IntKind.wrap_i64]; omega
        have hn1 : ((r : Int) + 1).toNat = r + 1 := by omega
        have hg0 : (0 : Int) ≤ (r : Int) + 1 := by omega
        have hrO : (r : Int) < O.length := by omega
        have m0 := cell_regrown c0
        have m1 := cell_regrown c1'
        have m2 := cell_regrown c2'
        have m3 := cell_regrown c3'
        have m4 := cell_regrown c4'
        have e0 := cell_regrown d0
        have e1 := cell_regrown d1
        have e2 := cell_regrown d2
        have e3 := cell_regrown d3
        have e4 := cell_regrown d4
        have cB : ∀ d os, Calls Try.prog 22 #[tp p.a p.g p.s p.m p.z, tp q.a q.g q.s q.m q.z] (Sort.grow (redrawn wr d) os) fun e w'' => e = .returned (.bool true) ∧ ∃ p : Regrown, w'' = Sort.grow (redrawn wr p.d) p.os :=
          fun d os => Calls.regrown_of (by have h := isBefore_any p q (Sort.grow (redrawn wr d) os); rw [show befB p q = true from decide_eq_true hbf] at h; exact h)
        clear hbf c0 c1' c2' c3' c4' d0 d1 d2 d3 d4
        go_wp2_with fail
        refine wp_region_quiet_below (by kernel_rfl) (by kernel_rfl) ?_
        repeat (quiet_step (exact cB _ _))
        refine wpQuiet_nil ?_
        intro _ hw'
        obtain ⟨⟨dq, osq⟩, hw''⟩ := hw'
        subst hw''
        have hbw := below_regrown wr dq osq
        have HB8 := hide (HBr.out.trans (hbw.mono HBr.out.size))
        clear hbw cB m0 m1 m2 m3 m4 e0 e1 e2 e3 e4 HBr
        generalize Sort.grow (redrawn wr dq) osq = w8 at *
        have hw2 : IntKind.i64.wrap ((r : Int) + 1 + 1) = (r : Int) + 1 + 1 := by rw [IntKind.wrap_i64]; omega
        go_wp2_with fail
        exact ⟨⟨r + 1, .inl (by omega), by simp, HB8⟩, by simp [intOf]; omega⟩
      · have hgi : ¬ (r : Int) + 1 < O.length := by omega
        have HGr := hide (HG4.out.on HBr.out)
        clear HBr HBf HT4
        have l0 := HGr.out.cell 0 0 w.heap.size _ _ _ rfl rfl rfl
        have l1 := HGr.out.cell 0 1 w.heap.size _ _ _ rfl rfl rfl
        have l2 := HGr.out.cell 0 2 w.heap.size _ _ _ rfl rfl rfl
        go_wp2_with fail
        refine (HI.out _ (HLed.out.below HGr.out.2.2)).mono ?_
        rintro e w5 ⟨⟨lv, od, nd, cd, rfl, ⟨v1, v2, v3, rfl, ⟨⟨a1, x1, rfl, ta⟩, -⟩, ⟨⟨a2, x2, rfl, tb⟩, -⟩, ⟨⟨a3, x3, rfl, tc⟩, -⟩⟩, hD, -⟩, hb⟩
        have hLa : LedV w5 (lg a1 a2 a3 (intoT T P V []).length x1 (intoP T P V []).length x2 (intoV T P V []).length x3) (intoT T P V []) (intoP T P V []) (intoV T P V []) := ⟨_, _, _, rfl, ⟨a1, x1, rfl, ta⟩, ⟨a2, x2, rfl, tb⟩, ⟨a3, x3, rfl, tc⟩⟩
        obtain ⟨rfl, -⟩ := hD.eqs
        have HA5 := hide hLa
        have HG5 := hide (HGr.out.on hb)
        clear hb HGr l0 l1 l2 ta tb tc hLa hD
        have HF := hide (And.intro (fun h => into_err (T := T) (P := P) (V := V) (M := []) h) (And.intro (fun h => into_lens (T := T) (P := P) (V := V) (M := []) h) (And.intro (fun h => into_none (T := T) (P := P) (V := V) h) (fun h => into_small (T := T) (P := P) (V := V) (M := []) h))))
        generalize intoE T P V [] = E at *
        generalize intoT T P V [] = T2 at *
        generalize intoP T P V [] = P2 at *
        generalize intoV T P V [] = V2 at *
        generalize intoD T P V [] = D at *
        rcases hE : (E != 0) with _ | _
        rotate_left 1
        · obtain ⟨rfl, rfl, rfl, rfl⟩ := HF.out.1 (by simpa using hE)
          go_wp2_with fail
          go_ret
          exact ⟨by simp, HG5.out.2.2.alloc HG5.out.2.2.size _⟩
        · obtain rfl : E = 0 := by simpa using hE
          clear hE
          have HN := hide HF.out.2.2.1
          have hlens := HF.out.2.1 rfl
          obtain ⟨hs1, hs2, hs3', -⟩ := HF.out.2.2.2 rfl
          have hs3 : V.length ≤ 60 := by omega
          clear hs3'
          clear HF
          simp only [List.length_nil, Nat.add_zero] at hlens
          have HLens := hide hlens
          clear hlens
          go_wp2_with fail
          have hb := (Below.refl w5.heap.size w5).alloc (Nat.le_refl _) (cL a1 a2 a3 T2.length x1 P2.length x2 V2.length x3 26)
          have HZ6 : Hid (Led3 (w5.alloc (cL a1 a2 a3 T2.length x1 P2.length x2 V2.length x3 26)) w5.heap.size a1 a2 a3 T2.length x1 P2.length x2 V2.length x3) := hide ⟨by simp [go_sem], by simp [go_sem], by simp [go_sem]⟩
          have HA6 := hide (HA5.out.below hb)
          have HG6 := hide (HG5.out.on hb)
          clear HA5 HG5 hb
          generalize w5.alloc (cL a1 a2 a3 T2.length x1 P2.length x2 V2.length x3 26) = w6 at *
          generalize w5.heap.size = bz at *
          go_loopw [12] (fun j wr => ∃ (r : Nat), (r + 1 ≤ P.length ∨ r = 0) ∧ j = .int .i64 ((r : Int) + 1) ∧ Hid (∀ i p q, i < r → P[i]? = some p → P[i + 1]? = some q → befP p q) ∧ Hid (Below w6.heap.size w6 wr)) (fun j _ => P.length + 1 - (intOf j).toNat)
          case atStart => exact ⟨0, .inr rfl, rfl, hide (fun i p q h => by omega), hide (Below.refl _ _)⟩
          case round =>
            obtain ⟨r, hr, rfl, HP, HBr⟩ := hrel
            have HG7 := hide (HG6.out.on HBr.out)
            have HA7 := hide (HA6.out.below HBr.out)
            have HZ7 := hide (HZ6.out.below HBr.out HZ6.out.lt)
            have l0 := HG7.out.cell 0 0 w.heap.size _ _ _ rfl rfl rfl
            have l1 := HG7.out.cell 0 1 w.heap.size _ _ _ rfl rfl rfl
            have l2 := HG7.out.cell 0 2 w.heap.size _ _ _ rfl rfl rfl
            obtain ⟨z0, z1, z2⟩ := HZ7.out
            by_cases hgo : r + 1 < P.length
            · obtain ⟨p, hp⟩ : ∃ p, P[r]? = some p := ⟨P[r], by simp⟩
              obtain ⟨q, hq⟩ : ∃ q, P[r + 1]? = some q := ⟨P[r + 1], by simp [hgo]⟩
              have hLV := HLed.out.below HG7.out.2.2
              obtain ⟨A, rfl, c0, c1', c2', c3', c4'⟩ := hLV.parts3.2.1.eqs.2.1 r p hp
              obtain ⟨A', hA', d0, d1, d2, d3, d4⟩ := hLV.parts3.2.1.eqs.2.1 (r + 1) q hq
              cases hA'
              have HX := hide (And.intro hp hq)
              clear hp hq hLV
              have hgi : (r : Int) + 1 < P.length := by omega
              have hw1 : IntKind.i64.wrap (r : Int) = (r : Int) := by rw [IntKind.wrap_i64]; omega
              have hn1 : ((r : Int) + 1).toNat = r + 1 := by omega
              have hg0 : (0 : Int) ≤ (r : Int) + 1 := by omega
              have hrP : (r : Int) < P.length := by omega
              have k1 := cell_regrown l1
              have k0 := cell_regrown l0
              have k2 := cell_regrown l2
              have m0 := cell_regrown c0
              have m1 := cell_regrown c1'
              have m2 := cell_regrown c2'
              have m3 := cell_regrown c3'
              have m4 := cell_regrown c4'
              have e0 := cell_regrown d0
              have e1 := cell_regrown d1
              have e2 := cell_regrown d2
              have e3 := cell_regrown d3
              have e4 := cell_regrown d4
              rcases hbf : befB p q with _ | _
              · have cB : ∀ d os, Calls Try.prog 22 #[tp p.a p.g p.s p.m p.z, tp q.a q.g q.s q.m q.z] (Sort.grow (redrawn wr d) os) fun e w'' => e = .returned (.bool false) ∧ ∃ p : Regrown, w'' = Sort.grow (redrawn wr p.d) p.os :=
                  fun d os => Calls.regrown_of (by have h := isBefore_any p q (Sort.grow (redrawn wr d) os); rw [hbf] at h; exact h)
                clear hbf l0 l2 c0 c1' c2' c3' c4' d0 d1 d2 d3 d4
                go_wp2_with fail
                refine wp_region_quiet_below (by kernel_rfl) (by kernel_rfl) ?_
                repeat (quiet_step (exact cB _ _))
                refine wpQuiet_nil ?_
                intro _ hw'
                obtain ⟨⟨dq, osq⟩, hw''⟩ := hw'
                subst hw''
                have hbw := below_regrown wr dq osq
                have HG8 := hide (HG7.out.on hbw)
                have HZ8 := hide (HZ7.out.below hbw HZ7.out.lt)
                clear hbw cB k0 k1 k2 m0 m1 m2 m3 m4 e0 e1 e2 e3 e4 l1 z0 z1 z2 HG7 HZ7
                generalize Sort.grow (redrawn wr dq) osq = w8 at *
                have l1 := HG8.out.cell 0 1 w.heap.size _ _ _ rfl rfl rfl
                obtain ⟨z0, z1, z2⟩ := HZ8.out
                have hww : IntKind.i64.wrap ((D.length : Int) + (P2.length : Int)) = (P.length : Int) := by have := HLens.out; rw [IntKind.wrap_i64]; omega
                go_wp2_with fail
                go_ret
                exact ⟨by simp, HG8.out.2.2⟩
              · have cB : ∀ d os, Calls Try.prog 22 #[tp p.a p.g p.s p.m p.z, tp q.a q.g q.s q.m q.z] (Sort.grow (redrawn wr d) os) fun e w'' => e = .returned (.bool true) ∧ ∃ p : Regrown, w'' = Sort.grow (redrawn wr p.d) p.os :=
                  fun d os => Calls.regrown_of (by have h := isBefore_any p q (Sort.grow (redrawn wr d) os); rw [hbf] at h; exact h)
                have HBf := hide (show befP p q from of_decide_eq_true hbf)
                clear hbf l0 l2 c0 c1' c2' c3' c4' d0 d1 d2 d3 d4
                go_wp2_with fail
                refine wp_region_quiet_below (by kernel_rfl) (by kernel_rfl) ?_
                repeat (quiet_step (exact cB _ _))
                refine wpQuiet_nil ?_
                intro _ hw'
                obtain ⟨⟨dq, osq⟩, hw''⟩ := hw'
                subst hw''
                have hbw := below_regrown wr dq osq
                have HB8 := hide (HBr.out.trans (hbw.mono HBr.out.size))
                clear hbw cB k0 k1 k2 m0 m1 m2 m3 m4 e0 e1 e2 e3 e4 l1 z0 z1 z2 HG7 HZ7 HBr
                generalize Sort.grow (redrawn wr dq) osq = w8 at *
                have hw2 : IntKind.i64.wrap ((r : Int) + 1 + 1) = (r : Int) + 1 + 1 := by rw [IntKind.wrap_i64]; omega
                go_wp2_with fail
                refine ⟨⟨r + 1, .inl (by omega), by simp, hide (fun i x y hi hx hy => ?_), HB8⟩, by simp [intOf]; omega⟩
                by_cases h : i = r
                · subst h
                  have h1 := HX.out.1
                  have h2 := HX.out.2
                  rw [h1] at hx
                  rw [h2] at hy
                  cases hx
                  cases hy
                  exact HBf.out
                · exact HP.out i x y (by omega) hx hy
            · obtain ⟨rfl, rfl, rfl, rfl⟩ := HN.out (by trivial) (fun i p q hp hq => HP.out i p q (by have := (List.getElem?_eq_some_iff.1 hq).1; omega) hp hq)
              have hgi : ¬ (r : Int) + 1 < P2.length := by omega
              have HS := hide (same_ledM HA7.out (HLed.out.below HG7.out.2.2) (by omega) (by omega) (by omega))
              clear HN HP
              go_wp2_with fail
              refine HS.out.mono ?_
              rintro e w8 ⟨rfl, hb⟩
              go_wp2_with fail
              go_ret
              exact ⟨rfl, HG7.out.2.2.trans (hb.mono HG7.out.2.2.size)⟩
end Go.Proofs.Ytefdnddaggpgkaa
