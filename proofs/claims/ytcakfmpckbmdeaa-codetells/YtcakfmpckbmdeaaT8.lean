/-
  The contracts of 'single', 'ticketBegun' (package leeboardlaw).
-/
import Derived.Test.YtcakfmpckbmdeaaT7
import Derived.Lib.QuietBelow
import Derived.BigQuiet
namespace Go.Proofs.Ytcakfmpckbmdeaa
open Go.RowKit

theorem single_any (id : Int) (w : World) :
    Calls Try.prog 30 #[.int .i64 id] w fun e w' => e = .returned (tk id 1 10 500 15 0) ∧ Below w.heap.size w w' := by
  go_enter Try.func30, Try.ntmps30
  go_wp2_with fail
  refine bodyPost_ret (v := tk id 1 10 500 15 0) (by simp [results, Try.results30, go_sem]) rfl ⟨rfl, ?_⟩
  repeat (first | with_reducible exact Below.refl _ _ | with_reducible refine Below.alloc ?_ (by simp) _ | with_reducible refine Below.setCell ?_ (by simp) _)

theorem enc258 : encV 258 1 10 500 15 0 = ([1, 2, 0, 10, 1, 244, 31, 0], 0) := by decide +kernel
theorem dec258 : decV [1, 2, 0, 10, 1, 244, 31, 0] = (tk 258 1 10 500 15 0, 0) := by
  have h := dec_enc (i := 258) (k := 1) (f := 10) (t := 500) (z := 15) (r := 0) ⟨by decide, by decide, by decide, by decide, by decide, by decide, by decide, by decide, by decide, by decide, by decide, by decide⟩
  rw [show encL 258 1 10 500 15 0 = [1, 2, 0, 10, 1, 244, 31, 0] from by decide +kernel] at h
  exact h

set_option maxHeartbeats 1600000 in
theorem begun_any (w : World) :
    Calls Try.prog 14 #[] w fun e w' => e = .returned (.bool true) ∧ Below w.heap.size w w' := by
  go_enter Try.func14, Try.ntmps14
  go_wp2_with fail
  refine (single_any _ _).mono ?_
  rintro e w1 ⟨rfl, hb1⟩
  go_wp2_with fail
  refine (encode_any _ _ _ _ _ _ _).mono ?_
  rintro e w2 ⟨rfl, hb2⟩
  rw [enc258]
  simp only [S]
  go_wp2_with fail
  refine (decode_any _ _).mono ?_
  rintro e w3 ⟨rfl, hb3⟩
  simp only [dec258]
  go_wp2_with fail
  refine (decode_any _ _).mono ?_
  rintro e w4 ⟨rfl, hb4⟩
  rw [decV_other _ (by simp)]
  obtain ⟨c0, c1, c2, c3, c4, c5, y⟩ := (six_new w3 (.int .i64 258) (.int .i64 1) (.int .i64 10) (.int .i64 500) (.int .i64 15) (.int .i64 0) 23).kp (Kp.ofBelow (S := fun _ => False) hb4) (fun h => h)
  go_wp2_with fail
  obtain ⟨d0, d1, d2, d3, d4, d5, y2⟩ := (Six.mk c0 c1 c2 c3 c4 c5 y).alloc (.cells #[.int .i64 0, .int .i64 0, .int .i64 0, .int .i64 0, .int .i64 0, .int .i64 0] 23)
  have hB : Below w.heap.size w (w4.alloc (.cells #[.int .i64 0, .int .i64 0, .int .i64 0, .int .i64 0, .int .i64 0, .int .i64 0] 23)) :=
    ((((hb1.trans (hb2.mono hb1.size)).trans (hb3.mono (by have := hb1.size; have := hb2.size; omega))).alloc (by have := hb1.size; have := hb2.size; have := hb3.size; omega) _).trans (hb4.mono (by have := hb1.size; have := hb2.size; have := hb3.size; simp; omega))).alloc (by have := hb1.size; have := hb2.size; have := hb3.size; have := hb4.size; simp at this; omega) _
  generalize w4.alloc (.cells #[.int .i64 0, .int .i64 0, .int .i64 0, .int .i64 0, .int .i64 0, .int .i64 0] 23) = w5 at *
  have k0 := cell_regrown d0
  have k1 := cell_regrown d1
  have k2 := cell_regrown d2
  have k3 := cell_regrown d3
  have k4 := cell_regrown d4
  have k5 := cell_regrown d5
  have cS : ∀ n d os, Calls Try.prog 30 #[.int .i64 n] (Sort.grow (redrawn w5 d) os) fun e w'' => e = .returned (tk n 1 10 500 15 0) ∧ ∃ p : Regrown, w'' = Sort.grow (redrawn w5 p.d) p.os := fun n d os => Calls.regrown_of (single_any n _)
  have cC : ∀ d os, Calls Try.prog 15 #[tk 1 1 10 500 15 0] (Sort.grow (redrawn w5 d) os) fun e w'' => e = .returned (.int .i64 0) ∧ ∃ p : Regrown, w'' = Sort.grow (redrawn w5 p.d) p.os := fun d os => Calls.regrown_of (check_any 1 1 10 500 15 0 _)
  clear c0 c1 c2 c3 c4 c5 y d0 d1 d2 d3 d4 d5 y2 hb1 hb2 hb3 hb4
  refine wp_region_quiet_below (by kernel_rfl) (by kernel_rfl) ?_
  repeat (quiet_step (first | exact cC _ _ | exact cS _ _ _))
  refine wpQuiet_nil ?_
  intro _ hw'
  obtain ⟨⟨dq, osq⟩, hw''⟩ := hw'
  subst hw''
  go_wp2
  go_ret
  exact ⟨rfl, hB.trans ((below_regrown w5 dq osq).mono hB.size)⟩
end Go.Proofs.Ytcakfmpckbmdeaa
