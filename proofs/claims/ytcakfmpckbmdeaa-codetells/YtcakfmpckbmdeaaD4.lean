/-
  The law 'CodeTells': its walk.
-/
import Derived.Test.YtcakfmpckbmdeaaD3
import Derived.Test.YtcakfmpckbmdeaaC13
import Derived.Test.YtcakfmpckbmdeaaC15
import Derived.Test.YtcakfmpckbmdeaaT14
namespace Go.Proofs.Ytcakfmpckbmdeaa
open Go.RowKit

theorem parse_err (l : List UInt8) : (parseV l).2 = 0 ∨ (parseV l).2 = 1 := by
  unfold parseV
  cases nin l with
  | none => exact Or.inr rfl
  | some n =>
    simp only
    by_cases hc : (decV (digs n 8 8)).2 = 0 ∧ codeL n = l
    · rw [if_pos hc]; exact Or.inl rfl
    · rw [if_neg hc]; exact Or.inr rfl

theorem parseOf_any (s : ByteArray) (w : World) :
    Calls Try.prog 20 #[.string s] w fun e w' => e = .returned (.tuple #[(parseV s.data.toList).1, .bool ((parseV s.data.toList).2 == 0)]) ∧ Below w.heap.size w w' := by
  have hl : s.data.toList.length = s.size := by simp
  by_cases h : s.size = 14
  · cases hv : vals s.data.toList with
    | none => rw [parse_bad _ (Or.inr hv)]; exact parseOf_bad s w (Or.inr ⟨h, hv⟩)
    | some vs => exact parseOf_signs s vs w h hv
  · rw [parse_bad _ (Or.inl (by omega))]; exact parseOf_bad s w (Or.inl h)

/-- the ways of Mark -/
theorem mark_ways (s : ByteArray) : (20 < s.size ∧ markV s.data.toList = ([], 2)) ∨ (s.size ≤ 20 ∧ s.toList.isEmpty = true ∧ markV s.data.toList = ([], 1)) ∨
    (s.size ≤ 20 ∧ s.toList.isEmpty = false ∧ vals s.data.toList = none ∧ markV s.data.toList = ([], 1)) ∨
    (s.size ≤ 20 ∧ s.toList.isEmpty = false ∧ ∃ vs, vals s.data.toList = some vs ∧ markV s.data.toList = ([sgn (mk vs)], 0)) := by
  have hl : s.data.toList.length = s.size := by simp
  have hem : s.toList.isEmpty = s.data.toList.isEmpty := by rw [ByteArray.toList_eq]
  by_cases h : 20 < s.size
  · left; refine ⟨h, ?_⟩; unfold markV; rw [if_pos (by omega)]
  · right
    cases hL : s.data.toList with
    | nil => left; refine ⟨by omega, by rw [hem, hL]; rfl, rfl⟩
    | cons b l =>
      right
      have hpos : 0 < (b :: l).length := by simp
      have h20 : (b :: l).length ≤ 20 := by rw [← hL]; omega
      cases hv : vals (b :: l) with
      | none => left; refine ⟨by omega, by rw [hem, hL]; rfl, rfl, ?_⟩; unfold markV; rw [if_neg (by omega), hv]
      | some vs => right; exact ⟨by omega, by rw [hem, hL]; rfl, vs, rfl, mark_of_vals hv h20 hpos⟩

set_option maxHeartbeats 6400000 in
theorem codeTells_bad (i k f t z r : Int) (s u : ByteArray) (w : World) (hmax : u.size ≤ maxLen) (hc : chk i k f t z r ≠ 0) :
    Calls Try.prog 6 #[tk i k f t z r, .string s, .string u] w fun e w' => e = .returned (.bool true) ∧ Below w.heap.size w w' := by
  have hP : printV i k f t z r = ([], chk i k f t z r) := by unfold printV; rw [if_neg hc]
  have hc' : (chk i k f t z r == 0) = false := by simpa using hc
  generalize hE : chk i k f t z r = E at *
  have HP := hide hP
  have HC := hide hE
  clear hP hc hE
  have HMX := hide hmax
  clear hmax
  obtain ⟨x0, x1, x2, x3, x4, x5, hx⟩ := parse_form s.data.toList
  rcases parse_err s.data.toList with he | he
  all_goals
    rw [he] at hx
    have HX := hide hx
    clear hx he
    rcases mark_ways u with ⟨h20, hM⟩ | ⟨h20, hem, hM⟩ | ⟨h20, hem, hv, hM⟩ | ⟨h20, hem, vs, hv, hM⟩
    · have HM := hide hM
      have h20' : ((20 : Int) < (u.size : Int)) := by omega
      clear hM
      go_enter Try.func6, Try.ntmps6
      go_wp2_with fail
      refine (print_any _ _ _ _ _ _ _).mono ?_
      rintro e w1 ⟨rfl, hb1⟩
      rw [HP.out]
      simp only [S]
      have s1 := hide ((six_new w (.int .i64 i) (.int .i64 k) (.int .i64 f) (.int .i64 t) (.int .i64 z) (.int .i64 r) 23).bl hb1)
      have hB1 : Below w.heap.size w w1 := ((Below.refl _ _).alloc (Nat.le_refl _) _).trans (hb1.mono (by simp))
      clear hb1
      go_wp2_with fail
      refine (parse_any _ _).mono ?_
      rintro e w2 ⟨rfl, hb2⟩
      rw [HX.out]
      have hB2 := hB1.trans (hb2.mono hB1.size)
      have s2 := hide ((s1.out.bl hb2).alloc (.cells #[.int .i64 x0, .int .i64 x1, .int .i64 x2, .int .i64 x3, .int .i64 x4, .int .i64 x5] 23))
      have x2' := hide (six_new w2 (.int .i64 x0) (.int .i64 x1) (.int .i64 x2) (.int .i64 x3) (.int .i64 x4) (.int .i64 x5) 23)
      have hB3 := hB2.alloc hB2.size (.cells #[.int .i64 x0, .int .i64 x1, .int .i64 x2, .int .i64 x3, .int .i64 x4, .int .i64 x5] 23)
      clear hb2 hB1 hB2
      go_wp2_with fail
      refine (mark_any _ _ HMX.out).mono ?_
      rintro e w3 ⟨rfl, hb3⟩
      rw [HM.out]
      simp only [S]
      obtain ⟨c0, c1, c2, c3, c4, c5, y⟩ := s2.out.bl hb3
      have x3' := hide (x2'.out.bl hb3)
      have hB4 := hB3.trans (hb3.mono hB3.size)
      clear hb3 hB3
      go_wp2_with fail
      refine (checkT_any _ _ _ _ _ _ _).mono ?_
      rintro e w4 ⟨rfl, hb4⟩
      rw [HC.out]
      have s4 := (Six.mk c0 c1 c2 c3 c4 c5 y).bl hb4
      have x4' := hide (x3'.out.bl hb4)
      have hB5 := hB4.trans (hb4.mono hB4.size)
      clear hb4 hB4 c0 c1 c2 c3 c4 c5 y
      obtain ⟨c0, c1, c2, c3, c4, c5, y⟩ := s4
      go_wp2_with fail
      have x5' := x4'
      have hB6 := hB5
      clear hB5 c0 c1 c2 c3 c4 c5 y
      refine (parseOf_any _ _).mono ?_
      rintro e w6 ⟨rfl, hb6⟩
      rw [HX.out]
      have x6' := hide ((x5'.out.bl hb6).alloc (.cells #[.int .i64 x0, .int .i64 x1, .int .i64 x2, .int .i64 x3, .int .i64 x4, .int .i64 x5] 23))
      have z6' := hide (six_new w6 (.int .i64 x0) (.int .i64 x1) (.int .i64 x2) (.int .i64 x3) (.int .i64 x4) (.int .i64 x5) 23)
      have hB7 := hB6.trans (hb6.mono hB6.size)
      have hB8 := hB7.alloc hB7.size (.cells #[.int .i64 x0, .int .i64 x1, .int .i64 x2, .int .i64 x3, .int .i64 x4, .int .i64 x5] 23)
      clear hb6 hB6 hB7
      go_wp2_with fail
      refine (codeBegun_any _).mono ?_
      rintro e w9 ⟨rfl, hb9⟩
      obtain ⟨d0, d1, d2, d3, d4, d5, yy⟩ := x6'.out.bl hb9
      obtain ⟨g0, g1, g2, g3, g4, g5, yz⟩ := z6'.out.bl hb9
      have hB9 := hB8.trans (hb9.mono hB8.size)
      clear hb9 hB8
      go_wp2_with fail
      go_ret
      exact ⟨by simp, hB9⟩
    · have HM := hide hM
      have h20' : decide ((20 : Int) < (u.size : Int)) = false := by simp; omega
      clear hM
      go_enter Try.func6, Try.ntmps6
      go_wp2_with fail
      refine (print_any _ _ _ _ _ _ _).mono ?_
      rintro e w1 ⟨rfl, hb1⟩
      rw [HP.out]
      simp only [S]
      have s1 := hide ((six_new w (.int .i64 i) (.int .i64 k) (.int .i64 f) (.int .i64 t) (.int .i64 z) (.int .i64 r) 23).bl hb1)
      have hB1 : Below w.heap.size w w1 := ((Below.refl _ _).alloc (Nat.le_refl _) _).trans (hb1.mono (by simp))
      clear hb1
      go_wp2_with fail
      refine (parse_any _ _).mono ?_
      rintro e w2 ⟨rfl, hb2⟩
      rw [HX.out]
      have hB2 := hB1.trans (hb2.mono hB1.size)
      have s2 := hide ((s1.out.bl hb2).alloc (.cells #[.int .i64 x0, .int .i64 x1, .int .i64 x2, .int .i64 x3, .int .i64 x4, .int .i64 x5] 23))
      have x2' := hide (six_new w2 (.int .i64 x0) (.int .i64 x1) (.int .i64 x2) (.int .i64 x3) (.int .i64 x4) (.int .i64 x5) 23)
      have hB3 := hB2.alloc hB2.size (.cells #[.int .i64 x0, .int .i64 x1, .int .i64 x2, .int .i64 x3, .int .i64 x4, .int .i64 x5] 23)
      clear hb2 hB1 hB2
      go_wp2_with fail
      refine (mark_any _ _ HMX.out).mono ?_
      rintro e w3 ⟨rfl, hb3⟩
      rw [HM.out]
      simp only [S]
      obtain ⟨c0, c1, c2, c3, c4, c5, y⟩ := s2.out.bl hb3
      have x3' := hide (x2'.out.bl hb3)
      have hB4 := hB3.trans (hb3.mono hB3.size)
      clear hb3 hB3
      go_wp2_with fail
      refine (checkT_any _ _ _ _ _ _ _).mono ?_
      rintro e w4 ⟨rfl, hb4⟩
      rw [HC.out]
      have s4 := (Six.mk c0 c1 c2 c3 c4 c5 y).bl hb4
      have x4' := hide (x3'.out.bl hb4)
      have hB5 := hB4.trans (hb4.mono hB4.size)
      clear hb4 hB4 c0 c1 c2 c3 c4 c5 y
      obtain ⟨c0, c1, c2, c3, c4, c5, y⟩ := s4
      go_wp2_with fail
      have x5' := x4'
      have hB6 := hB5
      clear hB5 c0 c1 c2 c3 c4 c5 y
      refine (parseOf_any _ _).mono ?_
      rintro e w6 ⟨rfl, hb6⟩
      rw [HX.out]
      have x6' := hide ((x5'.out.bl hb6).alloc (.cells #[.int .i64 x0, .int .i64 x1, .int .i64 x2, .int .i64 x3, .int .i64 x4, .int .i64 x5] 23))
      have z6' := hide (six_new w6 (.int .i64 x0) (.int .i64 x1) (.int .i64 x2) (.int .i64 x3) (.int .i64 x4) (.int .i64 x5) 23)
      have hB7 := hB6.trans (hb6.mono hB6.size)
      have hB8 := hB7.alloc hB7.size (.cells #[.int .i64 x0, .int .i64 x1, .int .i64 x2, .int .i64 x3, .int .i64 x4, .int .i64 x5] 23)
      clear hb6 hB6 hB7
      go_wp2_with fail
      refine (codeBegun_any _).mono ?_
      rintro e w9 ⟨rfl, hb9⟩
      obtain ⟨d0, d1, d2, d3, d4, d5, yy⟩ := x6'.out.bl hb9
      obtain ⟨g0, g1, g2, g3, g4, g5, yz⟩ := z6'.out.bl hb9
      have hB9 := hB8.trans (hb9.mono hB8.size)
      clear hb9 hB8
      go_wp2_with fail
      go_ret
      exact ⟨by simp, hB9⟩
    · have HM := hide hM
      have HV := hide hv
      have h20' : decide ((20 : Int) < (u.size : Int)) = false := by simp; omega
      clear hM hv
      go_enter Try.func6, Try.ntmps6
      go_wp2_with fail
      refine (print_any _ _ _ _ _ _ _).mono ?_
      rintro e w1 ⟨rfl, hb1⟩
      rw [HP.out]
      simp only [S]
      have s1 := hide ((six_new w (.int .i64 i) (.int .i64 k) (.int .i64 f) (.int .i64 t) (.int .i64 z) (.int .i64 r) 23).bl hb1)
      have hB1 : Below w.heap.size w w1 := ((Below.refl _ _).alloc (Nat.le_refl _) _).trans (hb1.mono (by simp))
      clear hb1
      go_wp2_with fail
      refine (parse_any _ _).mono ?_
      rintro e w2 ⟨rfl, hb2⟩
      rw [HX.out]
      have hB2 := hB1.trans (hb2.mono hB1.size)
      have s2 := hide ((s1.out.bl hb2).alloc (.cells #[.int .i64 x0, .int .i64 x1, .int .i64 x2, .int .i64 x3, .int .i64 x4, .int .i64 x5] 23))
      have x2' := hide (six_new w2 (.int .i64 x0) (.int .i64 x1) (.int .i64 x2) (.int .i64 x3) (.int .i64 x4) (.int .i64 x5) 23)
      have hB3 := hB2.alloc hB2.size (.cells #[.int .i64 x0, .int .i64 x1, .int .i64 x2, .int .i64 x3, .int .i64 x4, .int .i64 x5] 23)
      clear hb2 hB1 hB2
      go_wp2_with fail
      refine (mark_any _ _ HMX.out).mono ?_
      rintro e w3 ⟨rfl, hb3⟩
      rw [HM.out]
      simp only [S]
      obtain ⟨c0, c1, c2, c3, c4, c5, y⟩ := s2.out.bl hb3
      have x3' := hide (x2'.out.bl hb3)
      have hB4 := hB3.trans (hb3.mono hB3.size)
      clear hb3 hB3
      go_wp2_with fail
      refine (checkT_any _ _ _ _ _ _ _).mono ?_
      rintro e w4 ⟨rfl, hb4⟩
      rw [HC.out]
      have s4 := (Six.mk c0 c1 c2 c3 c4 c5 y).bl hb4
      have x4' := hide (x3'.out.bl hb4)
      have hB5 := hB4.trans (hb4.mono hB4.size)
      clear hb4 hB4 c0 c1 c2 c3 c4 c5 y
      obtain ⟨c0, c1, c2, c3, c4, c5, y⟩ := s4
      go_wp2_with fail
      have x5' := x4'
      have hB6 := hB5
      clear hB5 c0 c1 c2 c3 c4 c5 y
      refine (parseOf_any _ _).mono ?_
      rintro e w6 ⟨rfl, hb6⟩
      rw [HX.out]
      have x6' := hide ((x5'.out.bl hb6).alloc (.cells #[.int .i64 x0, .int .i64 x1, .int .i64 x2, .int .i64 x3, .int .i64 x4, .int .i64 x5] 23))
      have z6' := hide (six_new w6 (.int .i64 x0) (.int .i64 x1) (.int .i64 x2) (.int .i64 x3) (.int .i64 x4) (.int .i64 x5) 23)
      have hB7 := hB6.trans (hb6.mono hB6.size)
      have hB8 := hB7.alloc hB7.size (.cells #[.int .i64 x0, .int .i64 x1, .int .i64 x2, .int .i64 x3, .int .i64 x4, .int .i64 x5] 23)
      clear hb6 hB6 hB7
      go_wp2_with fail
      refine (areSigns_any u _ h20).mono ?_
      rintro e w7 ⟨rfl, rfl⟩
      rw [HV.out, Option.isSome_none]
      go_wp2_with fail
      refine (codeBegun_any _).mono ?_
      rintro e w9 ⟨rfl, hb9⟩
      obtain ⟨d0, d1, d2, d3, d4, d5, yy⟩ := x6'.out.bl hb9
      obtain ⟨g0, g1, g2, g3, g4, g5, yz⟩ := z6'.out.bl hb9
      have hB9 := hB8.trans (hb9.mono hB8.size)
      clear hb9 hB8
      go_wp2_with fail
      go_ret
      exact ⟨by simp, hB9⟩
    · have HM := hide hM
      have HV := hide hv
      have h20' : decide ((20 : Int) < (u.size : Int)) = false := by simp; omega
      clear hM hv
      go_enter Try.func6, Try.ntmps6
      go_wp2_with fail
      refine (print_any _ _ _ _ _ _ _).mono ?_
      rintro e w1 ⟨rfl, hb1⟩
      rw [HP.out]
      simp only [S]
      have s1 := hide ((six_new w (.int .i64 i) (.int .i64 k) (.int .i64 f) (.int .i64 t) (.int .i64 z) (.int .i64 r) 23).bl hb1)
      have hB1 : Below w.heap.size w w1 := ((Below.refl _ _).alloc (Nat.le_refl _) _).trans (hb1.mono (by simp))
      clear hb1
      go_wp2_with fail
      refine (parse_any _ _).mono ?_
      rintro e w2 ⟨rfl, hb2⟩
      rw [HX.out]
      have hB2 := hB1.trans (hb2.mono hB1.size)
      have s2 := hide ((s1.out.bl hb2).alloc (.cells #[.int .i64 x0, .int .i64 x1, .int .i64 x2, .int .i64 x3, .int .i64 x4, .int .i64 x5] 23))
      have x2' := hide (six_new w2 (.int .i64 x0) (.int .i64 x1) (.int .i64 x2) (.int .i64 x3) (.int .i64 x4) (.int .i64 x5) 23)
      have hB3 := hB2.alloc hB2.size (.cells #[.int .i64 x0, .int .i64 x1, .int .i64 x2, .int .i64 x3, .int .i64 x4, .int .i64 x5] 23)
      clear hb2 hB1 hB2
      go_wp2_with fail
      refine (mark_any _ _ HMX.out).mono ?_
      rintro e w3 ⟨rfl, hb3⟩
      rw [HM.out]
      simp only [S]
      obtain ⟨c0, c1, c2, c3, c4, c5, y⟩ := s2.out.bl hb3
      have x3' := hide (x2'.out.bl hb3)
      have hB4 := hB3.trans (hb3.mono hB3.size)
      clear hb3 hB3
      go_wp2_with fail
      refine (checkT_any _ _ _ _ _ _ _).mono ?_
      rintro e w4 ⟨rfl, hb4⟩
      rw [HC.out]
      have s4 := (Six.mk c0 c1 c2 c3 c4 c5 y).bl hb4
      have x4' := hide (x3'.out.bl hb4)
      have hB5 := hB4.trans (hb4.mono hB4.size)
      clear hb4 hB4 c0 c1 c2 c3 c4 c5 y
      obtain ⟨c0, c1, c2, c3, c4, c5, y⟩ := s4
      go_wp2_with fail
      have x5' := x4'
      have hB6 := hB5
      clear hB5 c0 c1 c2 c3 c4 c5 y
      refine (parseOf_any _ _).mono ?_
      rintro e w6 ⟨rfl, hb6⟩
      rw [HX.out]
      have x6' := hide ((x5'.out.bl hb6).alloc (.cells #[.int .i64 x0, .int .i64 x1, .int .i64 x2, .int .i64 x3, .int .i64 x4, .int .i64 x5] 23))
      have z6' := hide (six_new w6 (.int .i64 x0) (.int .i64 x1) (.int .i64 x2) (.int .i64 x3) (.int .i64 x4) (.int .i64 x5) 23)
      have hB7 := hB6.trans (hb6.mono hB6.size)
      have hB8 := hB7.alloc hB7.size (.cells #[.int .i64 x0, .int .i64 x1, .int .i64 x2, .int .i64 x3, .int .i64 x4, .int .i64 x5] 23)
      clear hb6 hB6 hB7
      go_wp2_with fail
      refine (areSigns_any u _ h20).mono ?_
      rintro e w7 ⟨rfl, rfl⟩
      rw [HV.out, Option.isSome_some]
      go_wp2_with fail
      refine (markOf_any u vs _ h20 HV.out).mono ?_
      rintro e w8 ⟨rfl, rfl⟩
      simp only [S]
      go_wp2_with fail
      refine (codeBegun_any _).mono ?_
      rintro e w9 ⟨rfl, hb9⟩
      obtain ⟨d0, d1, d2, d3, d4, d5, yy⟩ := x6'.out.bl hb9
      obtain ⟨g0, g1, g2, g3, g4, g5, yz⟩ := z6'.out.bl hb9
      have hB9 := hB8.trans (hb9.mono hB8.size)
      clear hb9 hB8
      go_wp2_with fail
      go_ret
      exact ⟨by simp, hB9⟩

end Go.Proofs.Ytcakfmpckbmdeaa
