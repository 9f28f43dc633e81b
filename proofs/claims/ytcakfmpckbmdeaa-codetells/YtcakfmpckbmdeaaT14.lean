/-
  The law 'TicketTells': its walk.
-/
import Derived.Test.YtcakfmpckbmdeaaT13
import Derived.Test.YtcakfmpckbmdeaaT11
namespace Go.Proofs.Ytcakfmpckbmdeaa
open Go.RowKit

theorem dec_form (l : List UInt8) : ∃ i k f t z r e : Int, decV l = (tk i k f t z r, e) := by
  rcases dec_cases l with ⟨e, h, _⟩ | ⟨i, k, f, t, z, r, h, _⟩
  · exact ⟨0, 0, 0, 0, 0, 0, e, h⟩
  · exact ⟨i, k, f, t, z, r, 0, h⟩

theorem Six.bl {w w' : World} {b : Nat} {x0 x1 x2 x3 x4 x5 : Value} (h : Six w b x0 x1 x2 x3 x4 x5) (hb : Below w.heap.size w w') : Six w' b x0 x1 x2 x3 x4 x5 :=
  h.kp (Kp.ofBelow (S := fun _ => False) hb) (fun h => h)

set_option maxHeartbeats 1600000 in
theorem ticketTells_walk (i k f t z r : Int) (s : ByteArray) (w : World) :
    Calls Try.prog 3 #[tk i k f t z r, .string s] w fun e w' => e = .returned (.bool true) ∧ Below w.heap.size w w' := by
  obtain ⟨i2, k2, f2, t2, z2, r2, e2, hd⟩ := dec_form s.data.toList
  have HD := hide hd
  clear hd
  by_cases hc : chk i k f t z r = 0
  · obtain ⟨i, k, f, t, z, r, rfl, rfl, rfl, rfl, rfl, rfl, hr⟩ := right_of _ _ _ _ _ _ hc
    have HE : Hid (encV (i : Int) k f t z r = (encL i k f t z r, 0)) := by
      show encV (i : Int) k f t z r = (encL i k f t z r, 0)
      unfold encV; rw [if_pos hc]; simp
    have HC := hide hc
    have HR := hide hr
    clear hc hr
    generalize hU : encL i k f t z r = U at HE
    have HU := hide hU
    clear hU
    go_enter Try.func3, Try.ntmps3
    go_wp2_with fail
    refine (encode_any _ _ _ _ _ _ _).mono ?_
    rintro ee w1 ⟨rfl, hb1⟩
    rw [HE.out]
    have s1 := (six_new w (.int .i64 i) (.int .i64 k) (.int .i64 f) (.int .i64 t) (.int .i64 z) (.int .i64 r) 23).bl hb1
    have hB : Below w.heap.size w w1 := ((Below.refl _ _).alloc (Nat.le_refl _) _).trans (hb1.mono (by simp))
    clear hb1
    simp only [S]
    go_wp2_with fail
    refine (decode_any _ _).mono ?_
    rintro ee w2 ⟨rfl, hb2⟩
    rw [HD.out]
    have hB := hB.trans (hb2.mono hB.size)
    have s2 := (s1.bl hb2).alloc (.cells #[.int .i64 i2, .int .i64 k2, .int .i64 f2, .int .i64 t2, .int .i64 z2, .int .i64 r2] 23)
    have x2 := six_new w2 (.int .i64 i2) (.int .i64 k2) (.int .i64 f2) (.int .i64 t2) (.int .i64 z2) (.int .i64 r2) 23
    clear hb2 s1
    have hB2 := hB.alloc hB.size (.cells #[.int .i64 i2, .int .i64 k2, .int .i64 f2, .int .i64 t2, .int .i64 z2, .int .i64 r2] 23)
    obtain ⟨c0, c1, c2, c3, c4, c5, y⟩ := s2
    go_wp2_with fail
    refine (checkT_any _ _ _ _ _ _ _).mono ?_
    rintro ee w3 ⟨rfl, hb3⟩
    have s3 := (Six.mk c0 c1 c2 c3 c4 c5 y).bl hb3
    have x3 := x2.bl hb3
    have hB3 := hB2.trans (hb3.mono hB2.size)
    clear c0 c1 c2 c3 c4 c5 y x2 hb3 hB2 hB
    rw [HC.out]
    obtain ⟨c0, c1, c2, c3, c4, c5, y⟩ := s3
    go_wp2_with fail
    refine (bytes_ok i k f t z r _ HR.out).mono ?_
    rintro ee w4 ⟨rfl, hb4⟩
    rw [HU.out]
    have s4 := (Six.mk c0 c1 c2 c3 c4 c5 y).bl hb4
    have x4 := x3.bl hb4
    have hB4 := hB3.trans (hb4.mono hB3.size)
    clear c0 c1 c2 c3 c4 c5 y x3 hb4 hB3
    simp only [S]
    go_wp2_with fail
    refine (ticketOf_any _ _).mono ?_
    rintro ee w5 ⟨rfl, hb5⟩
    rw [HD.out]
    have s5 := (s4.bl hb5).alloc (.cells #[.int .i64 i2, .int .i64 k2, .int .i64 f2, .int .i64 t2, .int .i64 z2, .int .i64 r2] 23)
    have x5 := (x4.bl hb5).alloc (.cells #[.int .i64 i2, .int .i64 k2, .int .i64 f2, .int .i64 t2, .int .i64 z2, .int .i64 r2] 23)
    have z5 := six_new w5 (.int .i64 i2) (.int .i64 k2) (.int .i64 f2) (.int .i64 t2) (.int .i64 z2) (.int .i64 r2) 23
    have hB5 := hB4.trans (hb5.mono hB4.size)
    have hB6 := hB5.alloc hB5.size (.cells #[.int .i64 i2, .int .i64 k2, .int .i64 f2, .int .i64 t2, .int .i64 z2, .int .i64 r2] 23)
    clear s4 x4 hb5 hB4 hB5
    go_wp2_with fail
    refine (begun_any _).mono ?_
    rintro ee w6 ⟨rfl, hb6⟩
    obtain ⟨c0, c1, c2, c3, c4, c5, y⟩ := s5.bl hb6
    have x6 := x5.bl hb6
    have z6 := z5.bl hb6
    have hB7 := hB6.trans (hb6.mono hB6.size)
    clear s5 x5 z5 hb6 hB6
    go_wp2_with fail
    refine (check_any _ _ _ _ _ _ _).mono ?_
    rintro ee w7 ⟨rfl, hb7⟩
    obtain ⟨d0, d1, d2, d3, d4, d5, yy⟩ := x6.bl hb7
    obtain ⟨f0, f1, f2', f3, f4, f5, yz⟩ := z6.bl hb7
    have hB8 := hB7.trans (hb7.mono hB7.size)
    clear c0 c1 c2 c3 c4 c5 y x6 z6 hb7 hB7
    rw [HC.out]
    go_wp2_with fail
    go_ret
    exact ⟨by simp, hB8⟩
  · have HE : Hid (encV i k f t z r = ([], chk i k f t z r)) := by
      show encV i k f t z r = ([], chk i k f t z r)
      unfold encV; rw [if_neg hc]
    have hc' : (chk i k f t z r == 0) = false := by simpa using hc
    generalize hE : chk i k f t z r = E at hc' HE
    have HC := hide hE
    clear hc hE
    go_enter Try.func3, Try.ntmps3
    go_wp2_with fail
    refine (encode_any _ _ _ _ _ _ _).mono ?_
    rintro ee w1 ⟨rfl, hb1⟩
    rw [HE.out]
    have s1 := (six_new w (.int .i64 i) (.int .i64 k) (.int .i64 f) (.int .i64 t) (.int .i64 z) (.int .i64 r) 23).bl hb1
    have hB : Below w.heap.size w w1 := ((Below.refl _ _).alloc (Nat.le_refl _) _).trans (hb1.mono (by simp))
    clear hb1
    simp only [S]
    go_wp2_with fail
    refine (decode_any _ _).mono ?_
    rintro ee w2 ⟨rfl, hb2⟩
    rw [HD.out]
    have hB := hB.trans (hb2.mono hB.size)
    have s2 := (s1.bl hb2).alloc (.cells #[.int .i64 i2, .int .i64 k2, .int .i64 f2, .int .i64 t2, .int .i64 z2, .int .i64 r2] 23)
    have x2 := six_new w2 (.int .i64 i2) (.int .i64 k2) (.int .i64 f2) (.int .i64 t2) (.int .i64 z2) (.int .i64 r2) 23
    clear hb2 s1
    have hB2 := hB.alloc hB.size (.cells #[.int .i64 i2, .int .i64 k2, .int .i64 f2, .int .i64 t2, .int .i64 z2, .int .i64 r2] 23)
    obtain ⟨c0, c1, c2, c3, c4, c5, y⟩ := s2
    go_wp2_with fail
    refine (checkT_any _ _ _ _ _ _ _).mono ?_
    rintro ee w3 ⟨rfl, hb3⟩
    rw [HC.out]
    have s3 := (Six.mk c0 c1 c2 c3 c4 c5 y).bl hb3
    have x3 := x2.bl hb3
    have hB3 := hB2.trans (hb3.mono hB2.size)
    clear c0 c1 c2 c3 c4 c5 y x2 hb3 hB2 hB
    obtain ⟨c0, c1, c2, c3, c4, c5, y⟩ := s3
    go_wp2_with fail
    have s4 := Six.mk c0 c1 c2 c3 c4 c5 y
    have x4 := x3
    have hB4 := hB3
    clear c0 c1 c2 c3 c4 c5 y x3 hB3
    refine (ticketOf_any _ _).mono ?_
    rintro ee w5 ⟨rfl, hb5⟩
    rw [HD.out]
    have s5 := (s4.bl hb5).alloc (.cells #[.int .i64 i2, .int .i64 k2, .int .i64 f2, .int .i64 t2, .int .i64 z2, .int .i64 r2] 23)
    have x5 := (x4.bl hb5).alloc (.cells #[.int .i64 i2, .int .i64 k2, .int .i64 f2, .int .i64 t2, .int .i64 z2, .int .i64 r2] 23)
    have z5 := six_new w5 (.int .i64 i2) (.int .i64 k2) (.int .i64 f2) (.int .i64 t2) (.int .i64 z2) (.int .i64 r2) 23
    have hB5 := hB4.trans (hb5.mono hB4.size)
    have hB6 := hB5.alloc hB5.size (.cells #[.int .i64 i2, .int .i64 k2, .int .i64 f2, .int .i64 t2, .int .i64 z2, .int .i64 r2] 23)
    clear s4 x4 hb5 hB4 hB5
    go_wp2_with fail
    refine (begun_any _).mono ?_
    rintro ee w6 ⟨rfl, hb6⟩
    obtain ⟨c0, c1, c2, c3, c4, c5, y⟩ := s5.bl hb6
    have x6 := x5.bl hb6
    have z6 := z5.bl hb6
    have hB7 := hB6.trans (hb6.mono hB6.size)
    clear s5 x5 z5 hb6 hB6
    go_wp2_with fail
    refine (check_any _ _ _ _ _ _ _).mono ?_
    rintro ee w7 ⟨rfl, hb7⟩
    rw [HC.out]
    obtain ⟨d0, d1, d2, d3, d4, d5, yy⟩ := x6.bl hb7
    obtain ⟨f0, f1, f2', f3, f4, f5, yz⟩ := z6.bl hb7
    have hB8 := hB7.trans (hb7.mono hB7.size)
    clear c0 c1 c2 c3 c4 c5 y x6 z6 hb7 hB7
    
    go_wp2_with fail
    go_ret
    exact ⟨by simp, hB8⟩
end Go.Proofs.Ytcakfmpckbmdeaa
