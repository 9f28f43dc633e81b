/-
  'single', 'at', 'ruleBegun' (package leeboardlaw).
-/
import Derived.Test.YtlnmheooicancaaP4
namespace Go.Proofs.Ytlnmheooicancaa
open Go.RowKit

theorem single_any (id : Int) (w : World) :
    Calls Try.prog 10 #[.int .i64 id] w fun e w' => e = .returned (tk id 1 10 500 15 0) ∧ Below w.heap.size w w' := by
  go_enter Try.func10, Try.ntmps10
  go_wp2_with fail
  refine bodyPost_ret (v := tk id 1 10 500 15 0) (by simp [results, Try.results10, go_sem]) rfl ⟨rfl, ?_⟩
  repeat (first | with_reducible exact Below.refl _ _ | with_reducible refine Below.alloc ?_ (by simp) _ | with_reducible refine Below.setCell ?_ (by simp) _)

theorem tapsAt_nil (w : World) (o : Option Addr) : TapsAt w o [] := fun i p h => by simp at h

theorem tapsAt_one {w : World} {b : Nat} {p : TP} (h : Tap5 w ⟨b, 0, none⟩ p) : TapsAt w (some ⟨b, 0, none⟩) [p] := by
  intro i q hq
  match i, hq with
  | 0, hq =>
    simp at hq
    subst hq
    exact ⟨_, rfl, by simpa [Addr.add] using h⟩
  | i + 1, hq => simp at hq

end Go.Proofs.Ytlnmheooicancaa
