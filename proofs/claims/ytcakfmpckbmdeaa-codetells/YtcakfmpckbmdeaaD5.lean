/-
  The law 'CodeTells': its walk, of a ticket that is right.
-/
import Derived.Test.YtcakfmpckbmdeaaD4
namespace Go.Proofs.Ytcakfmpckbmdeaa
open Go.RowKit

set_option maxHeartbeats 6400000 in
theorem codeTells_ok (i k f t z r : Nat) (s u : ByteArray) (w : World) (hmax : u.size ≤ maxLen) (hr : Right i k f t z r) :
    Calls Try.prog 6 #[tk i k f t z r, .string s, .string u] w fun e w' => e = .returned (.bool true) ∧ Below w.heap.size w w' := by
  have HP := hide (printV_right hr)
  have HC := hide (chk_right hr)
  have HR := hide hr
  generalize hN : num (encL i k f t z r) = N at HP
  have HN := hide hN
  clear hr hN
  have HMX := hide hmax
  clear hmax
  obtain ⟨x0, x1, x2, x3, x4, x5, hx⟩ := parse_form s.data.toList
  rcases parse_err s.data.toList with he | he
  all_goals
    rw [he] at hx
    have HX := hide hx
    clear hx he
    rcases mark_ways u with ⟨h20, hM⟩ | ⟨h20, hem, hM⟩ | ⟨h20, hem, hv, hM⟩ | ⟨h20, hem, vs, hv, hM⟩
    · have HM := hide hM
      have h20' : ((20 : Int) < (u.size : Int)) := by omega
      clear hM
      go_enter Try.func6, Try.ntmps6
      go_wp2_with fail
      refine (print_any _ _ _ _ _ _ _).mono ?_
      rintro e w1 ⟨rfl, hb1⟩
      rw [HP.out]
      simp only [S]
      have s1 := hide ((six_new w (.int .i64 i) (.int .i64 k) (.int .i64 f) (.int .i64 t) (.int .i64 z) (.int .i64 r) 23).bl hb1)
      have hB1 : Below w.heap.size w w1 := ((Below.refl _ _).alloc (Nat.le_refl _) _).trans (hb1.mono (by simp))
      clear hb1
      go_wp2_with fail
      refine (parse_any _ _).mono ?_
      rintro e w2 ⟨rfl, hb2⟩
      rw [HX.out]
      have hB2 := hB1.trans (hb2.mono hB1.size)
      have s2 := hide ((s1.out.bl hb2).alloc (.cells #[.int .i64 x0, .int .i64 x1, .int .i64 x2, .int .i64 x3, .int .i64 x4, .int .i64 x5] 23))
      have x2' := hide (six_new w2 (.int .i64 x0) (.int .i64 x1) (.int .i64 x2) (.int .i64 x3) (.int .i64 x4) (.int .i64 x5) 23)
      have hB3 := hB2.alloc hB2.size (.cells #[.int .i64 x0, .int .i64 x1, .int .i64 x2, .int .i64 x3, .int .i64 x4, .int .i64 x5] 23)
      clear hb2 hB1 hB2
      go_wp2_with fail
      refine (mark_any _ _ HMX.out).mono ?_
      rintro e w3 ⟨rfl, hb3⟩
      rw [HM.out]
      simp only [S]
      obtain ⟨c0, c1, c2, c3, c4, c5, y⟩ := s2.out.bl hb3
      have x3' := hide (x2'.out.bl hb3)
      have hB4 := hB3.trans (hb3.mono hB3.size)
      clear hb3 hB3
      go_wp2_with fail
      refine (checkT_any _ _ _ _ _ _ _).mono ?_
      rintro e w4 ⟨rfl, hb4⟩
      rw [HC.out]
      have s4 := (Six.mk c0 c1 c2 c3 c4 c5 y).bl hb4
      have x4' := hide (x3'.out.bl hb4)
      have hB5 := hB4.trans (hb4.mono hB4.size)
      clear hb4 hB4 c0 c1 c2 c3 c4 c5 y
      obtain ⟨c0, c1, c2, c3, c4, c5, y⟩ := s4
      go_wp2_with fail
      refine (codeOf_ok i k f t z r _ HR.out).mono ?_
      rintro e w5 ⟨rfl, hb5⟩
      rw [HN.out]
      simp only [S]
      have x5' := hide (x4'.out.bl hb5)
      have hB6 := hB5.trans (hb5.mono hB5.size)
      clear hb5 hB5 c0 c1 c2 c3 c4 c5 y
      go_wp2_with fail
      refine (parseOf_any _ _).mono ?_
      rintro e w6 ⟨rfl, hb6⟩
      rw [HX.out]
      have x6' := hide ((x5'.out.bl hb6).alloc (.cells #[.int .i64 x0, .int .i64 x1, .int .i64 x2, .int .i64 x3, .int .i64 x4, .int .i64 x5] 23))
      have z6' := hide (six_new w6 (.int .i64 x0) (.int .i64 x1) (.int .i64 x2) (.int .i64 x3) (.int .i64 x4) (.int .i64 x5) 23)
      have hB7 := hB6.trans (hb6.mono hB6.size)
      have hB8 := hB7.alloc hB7.size (.cells #[.int .i64 x0, .int .i64 x1, .int .i64 x2, .int .i64 x3, .int .i64 x4, .int .i64 x5] 23)
      clear hb6 hB6 hB7
      go_wp2_with fail
      refine (codeBegun_any _).mono ?_
      rintro e w9 ⟨rfl, hb9⟩
      obtain ⟨d0, d1, d2, d3, d4, d5, yy⟩ := x6'.out.bl hb9
      obtain ⟨g0, g1, g2, g3, g4, g5, yz⟩ := z6'.out.bl hb9
      have hB9 := hB8.trans (hb9.mono hB8.size)
      clear hb9 hB8
      go_wp2_with fail
      go_ret
      exact ⟨by simp, hB9⟩
    · have HM := hide hM
      have h20' : decide ((20 : Int) < (u.size : Int)) = false := by simp; omega
      clear hM
      go_enter Try.func6, Try.ntmps6
      go_wp2_with fail
      refine (print_any _ _ _ _ _ _ _).mono ?_
      rintro e w1 ⟨rfl, hb1⟩
      rw [HP.out]
      simp only [S]
      have s1 := hide ((six_new w (.int .i64 i) (.int .i64 k) (.int .i64 f) (.int .i64 t) (.int .i64 z) (.int .i64 r) 23).bl hb1)
      have hB1 : Below w.heap.size w w1 := ((Below.refl _ _).alloc (Nat.le_refl _) _).trans (hb1.mono (by simp))
      clear hb1
      go_wp2_with fail
      refine (parse_any _ _).mono ?_
      rintro e w2 ⟨rfl, hb2⟩
      rw [HX.out]
      have hB2 := hB1.trans (hb2.mono hB1.size)
      have s2 := hide ((s1.out.bl hb2).alloc (.cells #[.int .i64 x0, .int .i64 x1, .int .i64 x2, .int .i64 x3, .int .i64 x4, .int .i64 x5] 23))
      have x2' := hide (six_new w2 (.int .i64 x0) (.int .i64 x1) (.int .i64 x2) (.int .i64 x3) (.int .i64 x4) (.int .i64 x5) 23)
      have hB3 := hB2.alloc hB2.size (.cells #[.int .i64 x0, .int .i64 x1, .int .i64 x2, .int .i64 x3, .int .i64 x4, .int .i64 x5] 23)
      clear hb2 hB1 hB2
      go_wp2_with fail
      refine (mark_any _ _ HMX.out).mono ?_
      rintro e w3 ⟨rfl, hb3⟩
      rw [HM.out]
      simp only [S]
      obtain ⟨c0, c1, c2, c3, c4, c5, y⟩ := s2.out.bl hb3
      have x3' := hide (x2'.out.bl hb3)
      have hB4 := hB3.trans (hb3.mono hB3.size)
      clear hb3 hB3
      go_wp2_with fail
      refine (checkT_any _ _ _ _ _ _ _).mono ?_
      rintro e w4 ⟨rfl, hb4⟩
      rw [HC.out]
      have s4 := (Six.mk c0 c1 c2 c3 c4 c5 y).bl hb4
      have x4' := hide (x3'.out.bl hb4)
      have hB5 := hB4.trans (hb4.mono hB4.size)
      clear hb4 hB4 c0 c1 c2 c3 c4 c5 y
      obtain ⟨c0, c1, c2, c3, c4, c5, y⟩ := s4
      go_wp2_with fail
      refine (codeOf_ok i k f t z r _ HR.out).mono ?_
      rintro e w5 ⟨rfl, hb5⟩
      rw [HN.out]
      simp only [S]
      have x5' := hide (x4'.out.bl hb5)
      have hB6 := hB5.trans (hb5.mono hB5.size)
      clear hb5 hB5 c0 c1 c2 c3 c4 c5 y
      go_wp2_with fail
      refine (parseOf_any _ _).mono ?_
      rintro e w6 ⟨rfl, hb6⟩
      rw [HX.out]
      have x6' := hide ((x5'.out.bl hb6).alloc (.cells #[.int .i64 x0, .int .i64 x1, .int .i64 x2, .int .i64 x3, .int .i64 x4, .int .i64 x5] 23))
      have z6' := hide (six_new w6 (.int .i64 x0) (.int .i64 x1) (.int .i64 x2) (.int .i64 x3) (.int .i64 x4) (.int .i64 x5) 23)
      have hB7 := hB6.trans (hb6.mono hB6.size)
      have hB8 := hB7.alloc hB7.size (.cells #[.int .i64 x0, .int .i64 x1, .int .i64 x2, .int .i64 x3, .int .i64 x4, .int .i64 x5] 23)
      clear hb6 hB6 hB7
      go_wp2_with fail
      refine (codeBegun_any _).mono ?_
      rintro e w9 ⟨rfl, hb9⟩
      obtain ⟨d0, d1, d2, d3, d4, d5, yy⟩ := x6'.out.bl hb9
      obtain ⟨g0, g1, g2, g3, g4, g5, yz⟩ := z6'.out.bl hb9
      have hB9 := hB8.trans (hb9.mono hB8.size)
      clear hb9 hB8
      go_wp2_with fail
      go_ret
      exact ⟨by simp, hB9⟩
    · have HM := hide hM
      have HV := hide hv
      have h20' : decide ((20 : Int) < (u.size : Int)) = false := by simp; omega
      clear hM hv
      go_enter Try.func6, Try.ntmps6
      go_wp2_with fail
      refine (print_any _ _ _ _ _ _ _).mono ?_
      rintro e w1 ⟨rfl, hb1⟩
      rw [HP.out]
      simp only [S]
      have s1 := hide ((six_new w (.int .i64 i) (.int .i64 k) (.int .i64 f) (.int .i64 t) (.int .i64 z) (.int .i64 r) 23).bl hb1)
      have hB1 : Below w.heap.size w w1 := ((Below.refl _ _).alloc (Nat.le_refl _) _).trans (hb1.mono (by simp))
      clear hb1
      go_wp2_with fail
      refine (parse_any _ _).mono ?_
      rintro e w2 ⟨rfl, hb2⟩
      rw [HX.out]
      have hB2 := hB1.trans (hb2.mono hB1.size)
      have s2 := hide ((s1.out.bl hb2).alloc (.cells #[.int .i64 x0, .int .i64 x1, .int .i64 x2, .int .i64 x3, .int .i64 x4, .int .i64 x5] 23))
      have x2' := hide (six_new w2 (.int .i64 x0) (.int .i64 x1) (.int .i64 x2) (.int .i64 x3) (.int .i64 x4) (.int .i64 x5) 23)
      have hB3 := hB2.alloc hB2.size (.cells #[.int .i64 x0, .int .i64 x1, .int .i64 x2, .int .i64 x3, .int .i64 x4, .int .i64 x5] 23)
      clear hb2 hB1 hB2
      go_wp2_with fail
      refine (mark_any _ _ HMX.out).mono ?_
      rintro e w3 ⟨rfl, hb3⟩
      rw [HM.out]
      simp only [S]
      obtain ⟨c0, c1, c2, c3, c4, c5, y⟩ := s2.out.bl hb3
      have x3' := hide (x2'.out.bl hb3)
      have hB4 := hB3.trans (hb3.mono hB3.size)
      clear hb3 hB3
      go_wp2_with fail
      refine (checkT_any _ _ _ _ _ _ _).mono ?_
      rintro e w4 ⟨rfl, hb4⟩
      rw [HC.out]
      have s4 := (Six.mk c0 c1 c2 c3 c4 c5 y).bl hb4
      have x4' := hide (x3'.out.bl hb4)
      have hB5 := hB4.trans (hb4.mono hB4.size)
      clear hb4 hB4 c0 c1 c2 c3 c4 c5 y
      obtain ⟨c0, c1, c2, c3, c4, c5, y⟩ := s4
      go_wp2_with fail
      refine (codeOf_ok i k f t z r _ HR.out).mono ?_
      rintro e w5 ⟨rfl, hb5⟩
      rw [HN.out]
      simp only [S]
      have x5' := hide (x4'.out.bl hb5)
      have hB6 := hB5.trans (hb5.mono hB5.size)
      clear hb5 hB5 c0 c1 c2 c3 c4 c5 y
      go_wp2_with fail
      refine (parseOf_any _ _).mono ?_
      rintro e w6 ⟨rfl, hb6⟩
      rw [HX.out]
      have x6' := hide ((x5'.out.bl hb6).alloc (.cells #[.int .i64 x0, .int .i64 x1, .int .i64 x2, .int .i64 x3, .int .i64 x4, .int .i64 x5] 23))
      have z6' := hide (six_new w6 (.int .i64 x0) (.int .i64 x1) (.int .i64 x2) (.int .i64 x3) (.int .i64 x4) (.int .i64 x5) 23)
      have hB7 := hB6.trans (hb6.mono hB6.size)
      have hB8 := hB7.alloc hB7.size (.cells #[.int .i64 x0, .int .i64 x1, .int .i64 x2, .int .i64 x3, .int .i64 x4, .int .i64 x5] 23)
      clear hb6 hB6 hB7
      go_wp2_with fail
      refine (areSigns_any u _ h20).mono ?_
      rintro e w7 ⟨rfl, rfl⟩
      rw [HV.out, Option.isSome_none]
      go_wp2_with fail
      refine (codeBegun_any _).mono ?_
      rintro e w9 ⟨rfl, hb9⟩
      obtain ⟨d0, d1, d2, d3, d4, d5, yy⟩ := x6'.out.bl hb9
      obtain ⟨g0, g1, g2, g3, g4, g5, yz⟩ := z6'.out.bl hb9
      have hB9 := hB8.trans (hb9.mono hB8.size)
      clear hb9 hB8
      go_wp2_with fail
      go_ret
      exact ⟨by simp, hB9⟩
    · have HM := hide hM
      have HV := hide hv
      have h20' : decide ((20 : Int) < (u.size : Int)) = false := by simp; omega
      clear hM hv
      go_enter Try.func6, Try.ntmps6
      go_wp2_with fail
      refine (print_any _ _ _ _ _ _ _).mono ?_
      rintro e w1 ⟨rfl, hb1⟩
      rw [HP.out]
      simp only [S]
      have s1 := hide ((six_new w (.int .i64 i) (.int .i64 k) (.int .i64 f) (.int .i64 t) (.int .i64 z) (.int .i64 r) 23).bl hb1)
      have hB1 : Below w.heap.size w w1 := ((Below.refl _ _).alloc (Nat.le_refl _) _).trans (hb1.mono (by simp))
      clear hb1
      go_wp2_with fail
      refine (parse_any _ _).mono ?_
      rintro e w2 ⟨rfl, hb2⟩
      rw [HX.out]
      have hB2 := hB1.trans (hb2.mono hB1.size)
      have s2 := hide ((s1.out.bl hb2).alloc (.cells #[.int .i64 x0, .int .i64 x1, .int .i64 x2, .int .i64 x3, .int .i64 x4, .int .i64 x5] 23))
      have x2' := hide (six_new w2 (.int .i64 x0) (.int .i64 x1) (.int .i64 x2) (.int .i64 x3) (.int .i64 x4) (.int .i64 x5) 23)
      have hB3 := hB2.alloc hB2.size (.cells #[.int .i64 x0, .int .i64 x1, .int .i64 x2, .int .i64 x3, .int .i64 x4, .int .i64 x5] 23)
      clear hb2 hB1 hB2
      go_wp2_with fail
      refine (mark_any _ _ HMX.out).mono ?_
      rintro e w3 ⟨rfl, hb3⟩
      rw [HM.out]
      simp only [S]
      obtain ⟨c0, c1, c2, c3, c4, c5, y⟩ := s2.out.bl hb3
      have x3' := hide (x2'.out.bl hb3)
      have hB4 := hB3.trans (hb3.mono hB3.size)
      clear hb3 hB3
      go_wp2_with fail
      refine (checkT_any _ _ _ _ _ _ _).mono ?_
      rintro e w4 ⟨rfl, hb4⟩
      rw [HC.out]
      have s4 := (Six.mk c0 c1 c2 c3 c4 c5 y).bl hb4
      have x4' := hide (x3'.out.bl hb4)
      have hB5 := hB4.trans (hb4.mono hB4.size)
      clear hb4 hB4 c0 c1 c2 c3 c4 c5 y
      obtain ⟨c0, c1, c2, c3, c4, c5, y⟩ := s4
      go_wp2_with fail
      refine (codeOf_ok i k f t z r _ HR.out).mono ?_
      rintro e w5 ⟨rfl, hb5⟩
      rw [HN.out]
      simp only [S]
      have x5' := hide (x4'.out.bl hb5)
      have hB6 := hB5.trans (hb5.mono hB5.size)
      clear hb5 hB5 c0 c1 c2 c3 c4 c5 y
      go_wp2_with fail
      refine (parseOf_any _ _).mono ?_
      rintro e w6 ⟨rfl, hb6⟩
      rw [HX.out]
      have x6' := hide ((x5'.out.bl hb6).alloc (.cells #[.int .i64 x0, .int .i64 x1, .int .i64 x2, .int .i64 x3, .int .i64 x4, .int .i64 x5] 23))
      have z6' := hide (six_new w6 (.int .i64 x0) (.int .i64 x1) (.int .i64 x2) (.int .i64 x3) (.int .i64 x4) (.int .i64 x5) 23)
      have hB7 := hB6.trans (hb6.mono hB6.size)
      have hB8 := hB7.alloc hB7.size (.cells #[.int .i64 x0, .int .i64 x1, .int .i64 x2, .int .i64 x3, .int .i64 x4, .int .i64 x5] 23)
      clear hb6 hB6 hB7
      go_wp2_with fail
      refine (areSigns_any u _ h20).mono ?_
      rintro e w7 ⟨rfl, rfl⟩
      rw [HV.out, Option.isSome_some]
      go_wp2_with fail
      refine (markOf_any u vs _ h20 HV.out).mono ?_
      rintro e w8 ⟨rfl, rfl⟩
      simp only [S]
      go_wp2_with fail
      refine (codeBegun_any _).mono ?_
      rintro e w9 ⟨rfl, hb9⟩
      obtain ⟨d0, d1, d2, d3, d4, d5, yy⟩ := x6'.out.bl hb9
      obtain ⟨g0, g1, g2, g3, g4, g5, yz⟩ := z6'.out.bl hb9
      have hB9 := hB8.trans (hb9.mono hB8.size)
      clear hb9 hB8
      go_wp2_with fail
      go_ret
      exact ⟨by simp, hB9⟩

theorem codeTells_law (i k f t z r : Int) (s u : ByteArray) (w : World) (hmax : u.size ≤ maxLen) :
    Calls Try.prog 6 #[tk i k f t z r, .string s, .string u] w fun e w' => e = .returned (.bool true) ∧ Below w.heap.size w w' := by
  by_cases h : chk i k f t z r = 0
  · obtain ⟨i', k', f', t', z', r', rfl, rfl, rfl, rfl, rfl, rfl, hr⟩ := right_of _ _ _ _ _ _ h
    exact codeTells_ok i' k' f' t' z' r' s u w hmax hr
  · exact codeTells_bad i k f t z r s u w hmax h
end Go.Proofs.Ytcakfmpckbmdeaa
