/-
  The contracts of 'single', 'ticketBegun' (package leeboardlaw).
-/
import Derived.Test.YtcakfmpckbmdeabT7
import Derived.Lib.QuietBelow
import Derived.BigQuiet
namespace Go.Proofs.Ytcakfmpckbmdeab
open Go.RowKit

set_option maxRecDepth 100000 in
theorem single_any (id : Int) (w : World) :
    Calls Try.prog 35 #[.int .i64 id] w fun e w' => e = .returned (tk id 1 10 500 15 0) ∧ Below w.heap.size w w' := by
  go_enter Try.func35, Try.ntmps35
  go_wp2_with fail
  refine bodyPost_ret (v := tk id 1 10 500 15 0) (by simp [results, Try.results35, go_sem]) rfl ⟨rfl, ?_⟩
  repeat (first | with_reducible exact Below.refl _ _ | with_reducible refine Below.alloc ?_ (by simp) _ | with_reducible refine Below.setCell ?_ (by simp) _)

theorem enc258 : encV 258 1 10 500 15 0 = ([1, 2, 0, 10, 1, 244, 31, 0], 0) := by decide +kernel
theorem dec258 : decV [1, 2, 0, 10, 1, 244, 31, 0] = (tk 258 1 10 500 15 0, 0) := by
  have h := dec_enc (i := 258) (k := 1) (f := 10) (t := 500) (z := 15) (r := 0) ⟨by decide, by decide, by decide, by decide, by decide, by decide, by decide, by decide, by decide, by decide, by decide, by decide⟩
  rw [show encL 258 1 10 500 15 0 = [1, 2, 0, 10, 1, 244, 31, 0] from by decide +kernel] at h
  exact h

end Go.Proofs.Ytcakfmpckbmdeab
