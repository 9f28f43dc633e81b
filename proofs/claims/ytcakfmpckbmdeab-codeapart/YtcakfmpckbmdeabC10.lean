/-
  The contract of 'codeBegun' (package leeboardlaw).
-/
import Derived.Test.YtcakfmpckbmdeabM1
import Derived.Test.YtcakfmpckbmdeabT8
namespace Go.Proofs.Ytcakfmpckbmdeab
open Go.RowKit

theorem right1 : Right 1 1 10 500 15 0 := ⟨by decide, by decide, by decide, by decide, by decide, by decide, by decide, by decide, by decide, by decide, by decide, by decide⟩
theorem mark49 : markV [49] = ([86], 0) := by decide +kernel
theorem mark73 : markV [73] = ([], 1) := by decide +kernel

set_option maxHeartbeats 1600000 in
set_option maxRecDepth 100000 in
theorem codeBegun_any (w : World) :
    Calls Try.prog 10 #[] w fun e w' => e = .returned (.bool true) ∧ Below w.heap.size w w' := by
  obtain ⟨u, hP, hu, hL⟩ : ∃ u : List UInt8, printV 1 1 10 500 15 0 = (u, 0) ∧ parseV u = (tk 1 1 10 500 15 0, 0) ∧ u.length = 14 :=
    ⟨_, printV_right right1, parse_print right1, codeL_len _⟩
  have HP := hide hP
  have HU := hide hu
  have HL := hide hL
  clear hP hu hL
  go_enter Try.func10, Try.ntmps10
  go_wp2_with fail
  refine (single_any _ _).mono ?_
  rintro e w1 ⟨rfl, hb1⟩
  go_wp2_with fail
  refine (print_any _ _ _ _ _ _ _).mono ?_
  rintro e w2 ⟨rfl, hb2⟩
  rw [HP.out]
  simp only [S]
  have hB2 := hb1.trans (hb2.mono hb1.size)
  clear hb1 hb2
  generalize hA : (⟨u.toArray⟩ : ByteArray) = A
  have hAl : A.data.toList = u := by rw [← hA]
  have hAs : ((A.size : Int) == 14) = true := by
    have : A.size = 14 := by rw [← hA]; have := HL.out; simpa [ByteArray.size] using this
    rw [this]; rfl
  have HAl := hide hAl
  clear hA hAl
  go_wp2_with fail
  refine (parse_any _ _).mono ?_
  rintro e w3 ⟨rfl, hb3⟩
  rw [HAl.out, HU.out]
  have hB3 := hB2.trans (hb3.mono hB2.size)
  clear hb3 hB2
  have s3 := six_new w3 (.int .i64 1) (.int .i64 1) (.int .i64 10) (.int .i64 500) (.int .i64 15) (.int .i64 0) 23
  have hB4 := hB3.alloc hB3.size (.cells #[.int .i64 1, .int .i64 1, .int .i64 10, .int .i64 500, .int .i64 15, .int .i64 0] 23)
  have HS3 := hide s3
  clear s3
  go_wp2_with fail
  refine (mark_any _ _ (by decide)).mono ?_
  rintro e w4 ⟨rfl, hb4⟩
  rw [show (⟨#[49]⟩ : ByteArray).data.toList = [49] from rfl, mark49]
  simp only [S]
  have hB5 := hB4.trans (hb4.mono hB4.size)
  have HS4 := hide (HS3.out.kp (Kp.ofBelow (S := fun _ => False) hb4) (fun h => h))
  clear hb4 hB4
  go_wp2_with fail
  refine (mark_any _ _ (by decide)).mono ?_
  rintro e w5 ⟨rfl, hb5⟩
  rw [show (⟨#[73]⟩ : ByteArray).data.toList = [73] from rfl, mark73]
  simp only [S]
  have hB6 := hB5.trans (hb5.mono hB5.size)
  obtain ⟨d0, d1, d2, d3, d4, d5, y⟩ := HS4.out.kp (Kp.ofBelow (S := fun _ => False) hb5) (fun h => h)
  clear hb5 hB5
  have k0 := cell_regrown d0
  have k1 := cell_regrown d1
  have k2 := cell_regrown d2
  have k3 := cell_regrown d3
  have k4 := cell_regrown d4
  have k5 := cell_regrown d5
  have cS : ∀ n d os, Calls Try.prog 35 #[.int .i64 n] (Sort.grow (redrawn w5 d) os) fun e w'' => e = .returned (tk n 1 10 500 15 0) ∧ ∃ p : Regrown, w'' = Sort.grow (redrawn w5 p.d) p.os := fun n d os => Calls.regrown_of (single_any n _)
  clear d0 d1 d2 d3 d4 d5 y
  go_wp2_with fail
  refine wp_region_quiet_below (by kernel_rfl) (by kernel_rfl) ?_
  repeat (quiet_step (exact cS _ _ _))
  refine wpQuiet_nil ?_
  intro _ hw'
  obtain ⟨⟨dq, osq⟩, hw''⟩ := hw'
  subst hw''
  go_wp2
  go_ret
  exact ⟨rfl, hB6.trans ((below_regrown w5 dq osq).mono hB6.size)⟩
end Go.Proofs.Ytcakfmpckbmdeab
