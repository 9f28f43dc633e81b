/-
  'single', 'at', 'ruleBegun' (package leeboardlaw).
-/
import Derived.Test.YtcakfmpckbmdeabP4
namespace Go.Proofs.Ytcakfmpckbmdeab
open Go.RowKit

theorem single_any (id : Int) (w : World) :
    Calls Try.prog 35 #[.int .i64 id] w fun e w' => e = .returned (tk id 1 10 500 15 0) ∧ Below w.heap.size w w' := by
  go_enter Try.func35, Try.ntmps35
  go_wp2_with fail
  refine bodyPost_ret (v := tk id 1 10 500 15 0) (by simp [results, Try.results35, go_sem]) rfl ⟨rfl, ?_⟩
  repeat (first | with_reducible exact Below.refl _ _ | with_reducible refine Below.alloc ?_ (by simp) _ | with_reducible refine Below.setCell ?_ (by simp) _)

theorem at_any (id g s m : Int) (w : World) :
    Calls Try.prog 46 #[.int .i64 id, .int .i64 g, .int .i64 s, .int .i64 m] w fun e w' => e = .returned (tp id g s m 1) ∧ Below w.heap.size w w' := by
  go_enter Try.func46, Try.ntmps46
  go_wp2_with fail
  refine bodyPost_ret (v := tp id g s m 1) (by simp [results, Try.results46, go_sem]) rfl ⟨rfl, ?_⟩
  repeat (first | with_reducible exact Below.refl _ _ | with_reducible refine Below.alloc ?_ (by simp) _ | with_reducible refine Below.setCell ?_ (by simp) _)

theorem tapsAt_nil (w : World) (o : Option Addr) : TapsAt w o [] := fun i p h => by simp at h

theorem tapsAt_one {w : World} {b : Nat} {p : TP} (h : Tap5 w ⟨b, 0, none⟩ p) : TapsAt w (some ⟨b, 0, none⟩) [p] := by
  intro i q hq
  match i, hq with
  | 0, hq =>
    simp at hq
    subst hq
    exact ⟨_, rfl, by simpa [Addr.add] using h⟩
  | i + 1, hq => simp at hq

set_option maxHeartbeats 6400000 in
theorem ruleBegun_any (w : World) :
    Calls Try.prog 15 #[] w fun e w' => e = .returned (.bool true) ∧ Below w.heap.size w w' := by
  go_enter Try.func15, Try.ntmps15
  go_wp2_with fail
  refine (single_any _ _).mono ?_
  rintro e w1 ⟨rfl, hb⟩
  have HB1 := hide hb
  clear hb
  go_wp2_with fail
  refine (at_any _ _ _ _ _).mono ?_
  rintro e w2 ⟨rfl, hb⟩
  have HB2 := hide (HB1.out.trans (hb.mono HB1.out.size))
  clear hb HB1
  go_wp2_with fail
  refine (judge_any 1 1 10 500 15 0 0 1 0 1 20 1 none 0 [] _ (tapsAt_nil _ _) (by simp)).mono ?_
  rintro e w3 ⟨rfl, hb⟩
  have HB3 := hide (HB2.out.trans (hb.mono HB2.out.size))
  clear hb HB2
  rw [show judgeV 1 1 10 500 15 0 0 ⟨1, 0, 1, 20, 1⟩ [] = (1, 0) from by decide +kernel]
  go_wp2_with fail
  refine (single_any _ _).mono ?_
  rintro e w4 ⟨rfl, hb⟩
  have HB4 := hide (HB3.out.trans (hb.mono HB3.out.size))
  clear hb HB3
  go_wp2_with fail
  refine (at_any _ _ _ _ _).mono ?_
  rintro e w5 ⟨rfl, hb⟩
  have HB5 := hide (HB4.out.trans (hb.mono HB4.out.size))
  clear hb HB4
  go_wp2_with fail
  refine (at_any _ _ _ _ _).mono ?_
  rintro e w6 ⟨rfl, hb⟩
  have HT : Hid (Tap5 w6 ⟨w5.heap.size, 0, none⟩ ⟨1, 0, 1, 20, 1⟩) := hide (Tap5.below (w := w5.alloc (cP 1 0 1 20 1 32)) ⟨by simp [go_sem], by simp [go_sem], by simp [go_sem], by simp [go_sem], by simp [go_sem]⟩ hb (by simp))
  have HB6 := hide ((HB5.out.alloc HB5.out.size (cP 1 0 1 20 1 32)).trans (hb.mono (by have := HB5.out.size; simp; omega)))
  clear hb HB5
  go_wp2_with fail
  refine (judge_any 1 1 10 500 15 0 1 1 0 2 79 1 _ 1 [⟨1, 0, 1, 20, 1⟩] _ (tapsAt_one HT.out) (by simp)).mono ?_
  rintro e w7 ⟨rfl, hb⟩
  have HB7 := hide (HB6.out.trans (hb.mono HB6.out.size))
  clear hb HB6
  clear HT
  rw [show judgeV 1 1 10 500 15 0 1 ⟨1, 0, 2, 79, 1⟩ [⟨1, 0, 1, 20, 1⟩] = (2, 0) from by decide +kernel]
  go_wp2_with fail
  refine (single_any _ _).mono ?_
  rintro e w8 ⟨rfl, hb⟩
  have HB8 := hide (HB7.out.trans (hb.mono HB7.out.size))
  clear hb HB7
  go_wp2_with fail
  refine (at_any _ _ _ _ _).mono ?_
  rintro e w9 ⟨rfl, hb⟩
  have HB9 := hide (HB8.out.trans (hb.mono HB8.out.size))
  clear hb HB8
  go_wp2_with fail
  refine (at_any _ _ _ _ _).mono ?_
  rintro e w10 ⟨rfl, hb⟩
  have HT : Hid (Tap5 w10 ⟨w9.heap.size, 0, none⟩ ⟨1, 0, 1, 20, 1⟩) := hide (Tap5.below (w := w9.alloc (cP 1 0 1 20 1 32)) ⟨by simp [go_sem], by simp [go_sem], by simp [go_sem], by simp [go_sem], by simp [go_sem]⟩ hb (by simp))
  have HB10 := hide ((HB9.out.alloc HB9.out.size (cP 1 0 1 20 1 32)).trans (hb.mono (by have := HB9.out.size; simp; omega)))
  clear hb HB9
  go_wp2_with fail
  refine (judge_any 1 1 10 500 15 0 1 1 0 2 80 1 _ 1 [⟨1, 0, 1, 20, 1⟩] _ (tapsAt_one HT.out) (by simp)).mono ?_
  rintro e w11 ⟨rfl, hb⟩
  have HB11 := hide (HB10.out.trans (hb.mono HB10.out.size))
  clear hb HB10
  clear HT
  rw [show judgeV 1 1 10 500 15 0 1 ⟨1, 0, 2, 80, 1⟩ [⟨1, 0, 1, 20, 1⟩] = (3, 10) from by decide +kernel]
  go_wp2_with fail
  refine (single_any _ _).mono ?_
  rintro e w12 ⟨rfl, hb⟩
  have HB12 := hide (HB11.out.trans (hb.mono HB11.out.size))
  clear hb HB11
  go_wp2_with fail
  refine (at_any _ _ _ _ _).mono ?_
  rintro e w13 ⟨rfl, hb⟩
  have HB13 := hide (HB12.out.trans (hb.mono HB12.out.size))
  clear hb HB12
  go_wp2_with fail
  refine (judge_any 1 1 10 500 15 0 0 1 0 1 9 1 none 0 [] _ (tapsAt_nil _ _) (by simp)).mono ?_
  rintro e w14 ⟨rfl, hb⟩
  have HB14 := hide (HB13.out.trans (hb.mono HB13.out.size))
  clear hb HB13
  rw [show judgeV 1 1 10 500 15 0 0 ⟨1, 0, 1, 9, 1⟩ [] = (3, 8) from by decide +kernel]
  go_wp2_with fail
  refine (at_any _ _ _ _ _).mono ?_
  rintro e w15 ⟨rfl, hb⟩
  have HB15 := hide (HB14.out.trans (hb.mono HB14.out.size))
  clear hb HB14
  go_wp2_with fail
  refine (checkP_any _ _ _ _ _ _).mono ?_
  rintro e w16 ⟨rfl, hb⟩
  have HB16 := hide (HB15.out.trans (hb.mono HB15.out.size))
  clear hb HB15
  rw [show chkP 1 0 1 20 1 = 0 from by decide +kernel]
  go_wp2_with fail
  go_ret
  exact ⟨rfl, HB16.out⟩
end Go.Proofs.Ytcakfmpckbmdeab
