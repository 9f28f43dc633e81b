/-
  The law 'CodeWrong': its walk.
-/
import Derived.Test.YtcakfmpckbmdeaaC14
import Derived.Deep.QuietTactic
import Derived.BigQuiet
import Derived.BigRegion
namespace Go.Proofs.Ytcakfmpckbmdeaa
open Go.RowKit

set_option maxHeartbeats 3200000 in
theorem codeWrong_bad (i k f t z r n : Int) (b : UInt8) (w : World) (hc : chk i k f t z r ≠ 0) :
    Calls Try.prog 7 #[tk i k f t z r, .int .i64 n, .int .u8 (b.toNat : Int)] w fun e w' => e = .returned (.bool true) ∧ Below w.heap.size w w' := by
  have hP : printV i k f t z r = ([], chk i k f t z r) := by unfold printV; rw [if_neg hc]
  have hc' : (chk i k f t z r != 0) = true := by simpa using hc
  generalize chk i k f t z r = E at *
  have HP := hide hP
  clear hP hc
  go_enter Try.func7, Try.ntmps7
  go_wp2_with fail
  refine (print_any _ _ _ _ _ _ _).mono ?_
  rintro e w1 ⟨rfl, hb1⟩
  rw [HP.out]
  simp only [S]
  have hB1 : Below w.heap.size w w1 := ((Below.refl _ _).alloc (Nat.le_refl _) _).trans (hb1.mono (by simp))
  go_wp2_with fail
  refine (codeBegun_any _).mono ?_
  rintro e w2 ⟨rfl, hb2⟩
  go_wp2_with fail
  go_ret
  exact ⟨rfl, hB1.trans (hb2.mono hB1.size)⟩

theorem below_drewN {B : Nat} {a w : World} (h : Below B a w) (n : Nat) : Below B a (w.drewN n) := by
  induction n with
  | zero => exact h
  | succ n ih => exact ⟨ih.os, ih.tape, ih.output, ih.size, ih.block⟩

theorem parse_form (l : List UInt8) : ∃ i k f t z r : Int, parseV l = (tk i k f t z r, (parseV l).2) := by
  unfold parseV
  cases hn : nin l with
  | none => exact ⟨0, 0, 0, 0, 0, 0, rfl⟩
  | some n =>
    simp only
    by_cases hc : (decV (digs n 8 8)).2 = 0 ∧ codeL n = l
    · rw [if_pos hc]
      rcases dec_cases (digs n 8 8) with ⟨e, h, _⟩ | ⟨i, k, f, t, z, r, h, _⟩
      · exact ⟨0, 0, 0, 0, 0, 0, by rw [h]⟩
      · exact ⟨i, k, f, t, z, r, by rw [h]⟩
    · rw [if_neg hc]; exact ⟨0, 0, 0, 0, 0, 0, rfl⟩

set_option maxHeartbeats 3200000 in
theorem codeWrong_ok (i k f t z r : Nat) (n : Int) (b : UInt8) (w : World) (hr : Right i k f t z r) :
    Calls Try.prog 7 #[tk i k f t z r, .int .i64 n, .int .u8 (b.toNat : Int)] w fun e w' => e = .returned (.bool true) ∧ Below w.heap.size w w' := by
  have hP := printV_right hr
  have hR := parse_print hr
  generalize num (encL i k f t z r) = N at *
  have HP := hide hP
  have HR := hide hR
  clear hP hR hr
  generalize hA : (⟨(codeL N).toArray⟩ : ByteArray) = A
  have hAl : A.data.toList = codeL N := by rw [← hA]
  have hA14 : A.size = 14 := by rw [← hA]; have := codeL_len N; simpa [ByteArray.size] using this
  have hAS : S (codeL N) = .string A := by rw [← hA]; rfl
  have HAl := hide hAl
  have HAS := hide hAS
  clear hA hAl hAS
  by_cases hn0 : n < 0
  · go_enter Try.func7, Try.ntmps7
    go_wp2_with fail
    refine (print_any _ _ _ _ _ _ _).mono ?_
    rintro e w1 ⟨rfl, hb1⟩
    rw [HP.out, HAS.out]
    have s1 := hide ((six_new w (.int .i64 i) (.int .i64 k) (.int .i64 f) (.int .i64 t) (.int .i64 z) (.int .i64 r) 23).kp (Kp.ofBelow (S := fun _ => False) hb1) (fun h => h))
    have hB1 : Below w.heap.size w w1 := ((Below.refl _ _).alloc (Nat.le_refl _) _).trans (hb1.mono (by simp))
    clear hb1
    go_wp2_with fail
    refine (codeBegun_any _).mono ?_
    rintro e w2 ⟨rfl, hb2⟩
    have s2 := hide (s1.out.kp (Kp.ofBelow (S := fun _ => False) hb2) (fun h => h))
    have hB2 := hB1.trans (hb2.mono hB1.size)
    clear hb2
    go_wp2_with fail
    refine (parse_any _ _).mono ?_
    rintro e w3 ⟨rfl, hb3⟩
    rw [HAl.out, HR.out]
    obtain ⟨c0, c1, c2, c3, c4, c5, y⟩ := (s2.out.kp (Kp.ofBelow (S := fun _ => False) hb3) (fun h => h)).alloc (.cells #[.int .i64 i, .int .i64 k, .int .i64 f, .int .i64 t, .int .i64 z, .int .i64 r] 23)
    have hB3 := hB2.trans (hb3.mono hB2.size)
    have hB4 := hB3.alloc hB3.size (.cells #[.int .i64 i, .int .i64 k, .int .i64 f, .int .i64 t, .int .i64 z, .int .i64 r] 23)
    clear hb3 hB1 hB2 hB3
    go_wp2_with fail
    go_ret
    exact ⟨rfl, hB4⟩
  by_cases hn1 : 14 ≤ n
  · go_enter Try.func7, Try.ntmps7
    go_wp2_with fail
    refine (print_any _ _ _ _ _ _ _).mono ?_
    rintro e w1 ⟨rfl, hb1⟩
    rw [HP.out, HAS.out]
    have s1 := hide ((six_new w (.int .i64 i) (.int .i64 k) (.int .i64 f) (.int .i64 t) (.int .i64 z) (.int .i64 r) 23).kp (Kp.ofBelow (S := fun _ => False) hb1) (fun h => h))
    have hB1 : Below w.heap.size w w1 := ((Below.refl _ _).alloc (Nat.le_refl _) _).trans (hb1.mono (by simp))
    clear hb1
    go_wp2_with fail
    refine (codeBegun_any _).mono ?_
    rintro e w2 ⟨rfl, hb2⟩
    have s2 := hide (s1.out.kp (Kp.ofBelow (S := fun _ => False) hb2) (fun h => h))
    have hB2 := hB1.trans (hb2.mono hB1.size)
    clear hb2
    go_wp2_with fail
    refine (parse_any _ _).mono ?_
    rintro e w3 ⟨rfl, hb3⟩
    rw [HAl.out, HR.out]
    obtain ⟨c0, c1, c2, c3, c4, c5, y⟩ := (s2.out.kp (Kp.ofBelow (S := fun _ => False) hb3) (fun h => h)).alloc (.cells #[.int .i64 i, .int .i64 k, .int .i64 f, .int .i64 t, .int .i64 z, .int .i64 r] 23)
    have hB3 := hB2.trans (hb3.mono hB2.size)
    have hB4 := hB3.alloc hB3.size (.cells #[.int .i64 i, .int .i64 k, .int .i64 f, .int .i64 t, .int .i64 z, .int .i64 r] 23)
    clear hb3 hB1 hB2 hB3
    go_wp2_with fail
    go_ret
    exact ⟨rfl, hB4⟩
  obtain ⟨q, rfl⟩ := Int.eq_ofNat_of_zero_le (Int.not_lt.1 hn0)
  have hq : q < 14 := by omega
  have hqA : q < A.size := by omega
  by_cases hsame : A[q] = b
  · have hbq : (((A[q]).toNat : Int) == (b.toNat : Int)) = true := by rw [hsame]; simp
    have HSM := hide hsame
    clear hsame
    go_enter Try.func7, Try.ntmps7
    go_wp2_with fail
    refine (print_any _ _ _ _ _ _ _).mono ?_
    rintro e w1 ⟨rfl, hb1⟩
    rw [HP.out, HAS.out]
    have s1 := hide ((six_new w (.int .i64 i) (.int .i64 k) (.int .i64 f) (.int .i64 t) (.int .i64 z) (.int .i64 r) 23).kp (Kp.ofBelow (S := fun _ => False) hb1) (fun h => h))
    have hB1 : Below w.heap.size w w1 := ((Below.refl _ _).alloc (Nat.le_refl _) _).trans (hb1.mono (by simp))
    clear hb1
    go_wp2_with fail
    refine (codeBegun_any _).mono ?_
    rintro e w2 ⟨rfl, hb2⟩
    have s2 := hide (s1.out.kp (Kp.ofBelow (S := fun _ => False) hb2) (fun h => h))
    have hB2 := hB1.trans (hb2.mono hB1.size)
    clear hb2
    go_wp2_with fail
    refine (parse_any _ _).mono ?_
    rintro e w3 ⟨rfl, hb3⟩
    rw [HAl.out, HR.out]
    obtain ⟨c0, c1, c2, c3, c4, c5, y⟩ := (s2.out.kp (Kp.ofBelow (S := fun _ => False) hb3) (fun h => h)).alloc (.cells #[.int .i64 i, .int .i64 k, .int .i64 f, .int .i64 t, .int .i64 z, .int .i64 r] 23)
    have hB3 := hB2.trans (hb3.mono hB2.size)
    have hB4 := hB3.alloc hB3.size (.cells #[.int .i64 i, .int .i64 k, .int .i64 f, .int .i64 t, .int .i64 z, .int .i64 r] 23)
    clear hb3 hB1 hB2 hB3
    go_wp2_with fail
    clear c0 c1 c2 c3 c4 c5 y
    generalize w3.alloc (.cells #[.int .i64 i, .int .i64 k, .int .i64 f, .int .i64 t, .int .i64 z, .int .i64 r] 23) = W4 at *
    obtain ⟨cap, W, hrun, hcap, hBW, hlt, hcells, hfro⟩ := bytes_of W4 A
    have d1 := hcells q (by omega)
    have z1 := hfro q (by omega)
    have hB5 := hB4.trans (hBW.mono hB4.size)
    rw [hA14] at hrun
    rw [hrun]
    clear hcells hfro
    go_wp2_with fail
    have hw2 : IntKind.i64.wrap ((q : Int) + 2) = (q : Int) + 2 := by rw [IntKind.wrap_i64]; omega
    have hw1 : IntKind.i64.wrap ((q : Int) + 1) = (q : Int) + 1 := by rw [IntKind.wrap_i64]; omega
    by_cases h12 : 12 ≤ q
    · have g1 : (14 : Int) ≤ (q : Int) + 2 := by omega
      have g2 : decide ((14 : Int) ≤ (q : Int) + 2) = true := by simpa using g1
      go_quiet (fail)
      go_wp2
      go_ret
      exact ⟨rfl, below_drewN hB5 nq⟩
    have g2 : decide ((14 : Int) ≤ (q : Int) + 2) = false := by simp; omega
    have g3 : (q : Int) + 1 < 14 := by omega
    have g4 : 0 ≤ (q : Int) + 1 := by omega
    have g5 : ((q : Int) + 1).toNat = q + 1 := by omega
    have hq1 : q + 1 < A.size := by omega
    by_cases hadj : A[q] = A[q + 1]
    · have hab : (((A[q]).toNat : Int) == ((A[q + 1]).toNat : Int)) = true := by rw [hadj]; simp
      have HAD := hide hadj
      clear hadj
      go_quiet (fail)
      go_wp2
      go_ret
      exact ⟨rfl, below_drewN hB5 nq⟩
    have hab : (((A[q]).toNat : Int) == ((A[q + 1]).toNat : Int)) = false := by
      rw [beq_eq_false_iff_ne]; intro h; apply hadj; apply UInt8.toNat_inj.1; omega
    have HAD := hide hadj
    clear hadj
    go_quiet (fail)
    have hB6 : Below w.heap.size w (W.drewN nq) := below_drewN hB5 nq
    generalize W.drewN nq = W6 at *
    obtain ⟨cap2, V, hrun2, hcap2, hBV, hltV, hcells2, hfro2⟩ := bytes_of W6 A
    rw [hA14] at hrun2
    have e1 := hcells2 q (by omega)
    have y1 := hfro2 q (by omega)
    have e2 := hcells2 (q + 1) (by omega)
    have y2 := hfro2 (q + 1) (by omega)
    have hB7 := hB6.trans (hBV.mono hB6.size)
    clear hw2 hw1
    have hlen2 : A.data.toList.length = 14 := by rw [HAl.out]; exact codeL_len N
    have hcl2 : ∀ j (hj : j < A.data.toList.length), V.cell? ⟨W6.heap.size, j, none⟩ = some (.int .u8 ((A.data.toList[j]).toNat : Int)) := fun j hj => hcells2 j (by omega)
    have hst1 := set_cells V W6.heap.size q A.data.toList A[q + 1] (by omega) hcl2
    have hst2 := set_cells _ W6.heap.size (q + 1) (A.data.toList.set q A[q + 1]) A[q] (by rw [List.length_set]; omega) hst1
    have hstr2 := string_of ((V.setCell ⟨W6.heap.size, q, none⟩ (.int .u8 ((A[q + 1]).toNat : Int))).setCell ⟨W6.heap.size, q + 1, none⟩ (.int .u8 ((A[q]).toNat : Int))).drew W6.heap.size cap2 14 ((A.data.toList.set q A[q + 1]).set (q + 1) A[q]) (by rw [List.length_set, List.length_set]; exact hlen2) hst2
    have hB8 : Below w.heap.size w ((V.setCell ⟨W6.heap.size, q, none⟩ (.int .u8 ((A[q + 1]).toNat : Int))).setCell ⟨W6.heap.size, q + 1, none⟩ (.int .u8 ((A[q]).toNat : Int))).drew := ((hB7.setCell hB6.size _).setCell hB6.size _).drew
    have hw2 : (parseV ((A.data.toList.set q A[q + 1]).set (q + 1) A[q])).2 = 1 := by
      have f1 : A[q] = (codeL N)[q]'(by rw [codeL_len]; omega) := by simp only [← HAl.out]; rfl
      have f2 : A[q + 1] = (codeL N)[q + 1]'(by rw [codeL_len]; omega) := by simp only [← HAl.out]; rfl
      rw [HAl.out, f1, f2]
      refine wrong_two N q (by omega) ?_
      rw [← f1, ← f2]
      exact unhide HAD
    obtain ⟨y0, y1', y2', y3, y4, y5, hy⟩ := parse_form ((A.data.toList.set q A[q + 1]).set (q + 1) A[q])
    rw [hw2] at hy
    generalize hL3 : (A.data.toList.set q A[q + 1]).set (q + 1) A[q] = L3 at *
    have HY := hide hy
    clear hcells2 hfro2 hlen2 hcl2 hst1 hst2 hw2 hy hL3
    go_wp2
    go_region
    go_wp2_with fail
    refine (parse_any _ _).mono ?_
    rintro e w9 ⟨rfl, hb9⟩
    rw [show (⟨L3.toArray⟩ : ByteArray).data.toList = L3 by simp, HY.out]
    have hB9 := hB8.trans (hb9.mono hB8.size)
    go_wp2_with fail
    go_ret
    exact ⟨rfl, hB9.alloc hB9.size _⟩
  · have hbq : (((A[q]).toNat : Int) == (b.toNat : Int)) = false := by
      rw [beq_eq_false_iff_ne]; intro h; apply hsame; apply UInt8.toNat_inj.1; omega
    have HSM := hide hsame
    clear hsame
    go_enter Try.func7, Try.ntmps7
    go_wp2_with fail
    refine (print_any _ _ _ _ _ _ _).mono ?_
    rintro e w1 ⟨rfl, hb1⟩
    rw [HP.out, HAS.out]
    have s1 := hide ((six_new w (.int .i64 i) (.int .i64 k) (.int .i64 f) (.int .i64 t) (.int .i64 z) (.int .i64 r) 23).kp (Kp.ofBelow (S := fun _ => False) hb1) (fun h => h))
    have hB1 : Below w.heap.size w w1 := ((Below.refl _ _).alloc (Nat.le_refl _) _).trans (hb1.mono (by simp))
    clear hb1
    go_wp2_with fail
    refine (codeBegun_any _).mono ?_
    rintro e w2 ⟨rfl, hb2⟩
    have s2 := hide (s1.out.kp (Kp.ofBelow (S := fun _ => False) hb2) (fun h => h))
    have hB2 := hB1.trans (hb2.mono hB1.size)
    clear hb2
    go_wp2_with fail
    refine (parse_any _ _).mono ?_
    rintro e w3 ⟨rfl, hb3⟩
    rw [HAl.out, HR.out]
    obtain ⟨c0, c1, c2, c3, c4, c5, y⟩ := (s2.out.kp (Kp.ofBelow (S := fun _ => False) hb3) (fun h => h)).alloc (.cells #[.int .i64 i, .int .i64 k, .int .i64 f, .int .i64 t, .int .i64 z, .int .i64 r] 23)
    have hB3 := hB2.trans (hb3.mono hB2.size)
    have hB4 := hB3.alloc hB3.size (.cells #[.int .i64 i, .int .i64 k, .int .i64 f, .int .i64 t, .int .i64 z, .int .i64 r] 23)
    clear hb3 hB1 hB2 hB3
    go_wp2_with fail
    clear c0 c1 c2 c3 c4 c5 y
    generalize w3.alloc (.cells #[.int .i64 i, .int .i64 k, .int .i64 f, .int .i64 t, .int .i64 z, .int .i64 r] 23) = W4 at *
    obtain ⟨cap, W, hrun, hcap, hBW, hlt, hcells, hfro⟩ := bytes_of W4 A
    have d1 := hcells q (by omega)
    have z1 := hfro q (by omega)
    have hB5 := hB4.trans (hBW.mono hB4.size)
    rw [hA14] at hrun
    rw [hrun]
    have hlen : A.data.toList.length = 14 := by rw [HAl.out]; exact codeL_len N
    have hcl : ∀ j (hj : j < A.data.toList.length), W.cell? ⟨W4.heap.size, j, none⟩ = some (.int .u8 ((A.data.toList[j]).toNat : Int)) := fun j hj => hcells j (by omega)
    have hstr := string_of (W.setCell ⟨W4.heap.size, q, none⟩ (.int .u8 (b.toNat : Int))) W4.heap.size cap 14 (A.data.toList.set q b) (by rw [List.length_set]; exact hlen) (set_cells W W4.heap.size q A.data.toList b (by omega) hcl)
    have hB6 : Below w.heap.size w (W.setCell ⟨W4.heap.size, q, none⟩ (.int .u8 (b.toNat : Int))) := hB5.setCell hB4.size _
    have hw1 : (parseV (A.data.toList.set q b)).2 = 1 := by
      have := wrong_one N q b hq (by intro he; apply unhide HSM; rw [← he]; simp only [← HAl.out]; rfl)
      rw [HAl.out]; exact this
    obtain ⟨x0, x1, x2, x3, x4, x5, hx⟩ := parse_form (A.data.toList.set q b)
    rw [hw1] at hx
    generalize hL2 : A.data.toList.set q b = L2 at *
    have HX := hide hx
    clear hcells hfro hlen hcl hw1 hx hL2 hB5
    go_wp2_with fail
    refine (parse_any _ _).mono ?_
    rintro e w5 ⟨rfl, hb5⟩
    rw [show (⟨L2.toArray⟩ : ByteArray).data.toList = L2 by simp, HX.out]
    have hB5 := (hB6.trans (hb5.mono hB6.size)).alloc (hB6.trans (hb5.mono hB6.size)).size (.cells #[.int .i64 x0, .int .i64 x1, .int .i64 x2, .int .i64 x3, .int .i64 x4, .int .i64 x5] 23)
    clear hb5 hB6
    go_wp2_with fail
    generalize w5.alloc (.cells #[.int .i64 x0, .int .i64 x1, .int .i64 x2, .int .i64 x3, .int .i64 x4, .int .i64 x5] 23) = WX at *
    clear hrun hBW hcap hlt d1 z1 hstr
    have hw2 : IntKind.i64.wrap ((q : Int) + 2) = (q : Int) + 2 := by rw [IntKind.wrap_i64]; omega
    have hw1 : IntKind.i64.wrap ((q : Int) + 1) = (q : Int) + 1 := by rw [IntKind.wrap_i64]; omega
    by_cases h12 : 12 ≤ q
    · have g1 : (14 : Int) ≤ (q : Int) + 2 := by omega
      have g2 : decide ((14 : Int) ≤ (q : Int) + 2) = true := by simpa using g1
      go_quiet (fail)
      go_wp2
      go_ret
      exact ⟨rfl, below_drewN hB5 nq⟩
    have g2 : decide ((14 : Int) ≤ (q : Int) + 2) = false := by simp; omega
    have g3 : (q : Int) + 1 < 14 := by omega
    have g4 : 0 ≤ (q : Int) + 1 := by omega
    have g5 : ((q : Int) + 1).toNat = q + 1 := by omega
    have hq1 : q + 1 < A.size := by omega
    by_cases hadj : A[q] = A[q + 1]
    · have hab : (((A[q]).toNat : Int) == ((A[q + 1]).toNat : Int)) = true := by rw [hadj]; simp
      have HAD := hide hadj
      clear hadj
      go_quiet (fail)
      go_wp2
      go_ret
      exact ⟨rfl, below_drewN hB5 nq⟩
    have hab : (((A[q]).toNat : Int) == ((A[q + 1]).toNat : Int)) = false := by
      rw [beq_eq_false_iff_ne]; intro h; apply hadj; apply UInt8.toNat_inj.1; omega
    have HAD := hide hadj
    clear hadj
    go_quiet (fail)
    have hB6 : Below w.heap.size w (WX.drewN nq) := below_drewN hB5 nq
    generalize WX.drewN nq = W6 at *
    obtain ⟨cap2, V, hrun2, hcap2, hBV, hltV, hcells2, hfro2⟩ := bytes_of W6 A
    rw [hA14] at hrun2
    have e1 := hcells2 q (by omega)
    have y1 := hfro2 q (by omega)
    have e2 := hcells2 (q + 1) (by omega)
    have y2 := hfro2 (q + 1) (by omega)
    have hB7 := hB6.trans (hBV.mono hB6.size)
    clear hw2 hw1
    have hlen2 : A.data.toList.length = 14 := by rw [HAl.out]; exact codeL_len N
    have hcl2 : ∀ j (hj : j < A.data.toList.length), V.cell? ⟨W6.heap.size, j, none⟩ = some (.int .u8 ((A.data.toList[j]).toNat : Int)) := fun j hj => hcells2 j (by omega)
    have hst1 := set_cells V W6.heap.size q A.data.toList A[q + 1] (by omega) hcl2
    have hst2 := set_cells _ W6.heap.size (q + 1) (A.data.toList.set q A[q + 1]) A[q] (by rw [List.length_set]; omega) hst1
    have hstr2 := string_of ((V.setCell ⟨W6.heap.size, q, none⟩ (.int .u8 ((A[q + 1]).toNat : Int))).setCell ⟨W6.heap.size, q + 1, none⟩ (.int .u8 ((A[q]).toNat : Int))).drew W6.heap.size cap2 14 ((A.data.toList.set q A[q + 1]).set (q + 1) A[q]) (by rw [List.length_set, List.length_set]; exact hlen2) hst2
    have hB8 : Below w.heap.size w ((V.setCell ⟨W6.heap.size, q, none⟩ (.int .u8 ((A[q + 1]).toNat : Int))).setCell ⟨W6.heap.size, q + 1, none⟩ (.int .u8 ((A[q]).toNat : Int))).drew := ((hB7.setCell hB6.size _).setCell hB6.size _).drew
    have hw2 : (parseV ((A.data.toList.set q A[q + 1]).set (q + 1) A[q])).2 = 1 := by
      have f1 : A[q] = (codeL N)[q]'(by rw [codeL_len]; omega) := by simp only [← HAl.out]; rfl
      have f2 : A[q + 1] = (codeL N)[q + 1]'(by rw [codeL_len]; omega) := by simp only [← HAl.out]; rfl
      rw [HAl.out, f1, f2]
      refine wrong_two N q (by omega) ?_
      rw [← f1, ← f2]
      exact unhide HAD
    obtain ⟨y0, y1', y2', y3, y4, y5, hy⟩ := parse_form ((A.data.toList.set q A[q + 1]).set (q + 1) A[q])
    rw [hw2] at hy
    generalize hL3 : (A.data.toList.set q A[q + 1]).set (q + 1) A[q] = L3 at *
    have HY := hide hy
    clear hcells2 hfro2 hlen2 hcl2 hst1 hst2 hw2 hy hL3
    go_wp2
    go_region
    go_wp2_with fail
    refine (parse_any _ _).mono ?_
    rintro e w9 ⟨rfl, hb9⟩
    rw [show (⟨L3.toArray⟩ : ByteArray).data.toList = L3 by simp, HY.out]
    have hB9 := hB8.trans (hb9.mono hB8.size)
    go_wp2_with fail
    go_ret
    exact ⟨rfl, hB9.alloc hB9.size _⟩
theorem codeWrong_law (i k f t z r n c : Int) (w : World) (hc : (Lit.int .u8 c).wf = true) :
    Calls Try.prog 7 #[tk i k f t z r, .int .i64 n, .int .u8 c] w fun e w' => e = .returned (.bool true) ∧ Below w.heap.size w w' := by
  obtain ⟨b, rfl⟩ := byte_of c hc
  by_cases h : chk i k f t z r = 0
  · obtain ⟨i', k', f', t', z', r', rfl, rfl, rfl, rfl, rfl, rfl, hr⟩ := right_of _ _ _ _ _ _ h
    exact codeWrong_ok i' k' f' t' z' r' n b w hr
  · exact codeWrong_bad i k f t z r n b w h
end Go.Proofs.Ytcakfmpckbmdeaa
