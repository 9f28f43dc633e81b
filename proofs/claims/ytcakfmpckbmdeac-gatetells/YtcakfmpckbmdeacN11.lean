/-
  'HasInt', 'NewerOf' (the document's answer), 'deniedIs' (package leeboardlaw).
-/
import Derived.Test.YtcakfmpckbmdeacN9
import Derived.Test.YtcakfmpckbmdeacN2
namespace Go.Proofs.Ytcakfmpckbmdeac
open Go.RowKit

set_option maxHeartbeats 1600000 in
theorem hasInt_any (L : List Int) (id : Int) (o : Option Addr) (c : Nat) (w : World) (hL : IntsAt w o L) (hlen : L.length ≤ 9223372036854775807) :
    Calls Try.prog 25 #[.slice o L.length c, .int .i64 id] w fun e w' => e = .returned (.bool (hasI L id)) ∧ w' = w := by
  have HL := hide hL
  clear hL
  go_enter Try.func25, Try.ntmps25
  go_wp2_with fail
  go_loopw [5] (fun j wr => ∃ (q : Nat), q ≤ L.length ∧ j = .int .i64 q ∧ Hid (hasI (L.take q) id = false) ∧ wr = w) (fun j _ => L.length - (intOf j).toNat)
  case atStart => exact ⟨0, Nat.zero_le _, rfl, by show _ = _; simp [hasI], rfl⟩
  case round =>
    obtain ⟨q, hq, rfl, hF, hw⟩ := hrel
    subst hw
    by_cases hgo : q < L.length
    · obtain ⟨x, hx⟩ : ∃ x, L[q]? = some x := ⟨L[q], by simp [hgo]⟩
      have HS : Hid (hasI (L.take (q + 1)) id = (x == id)) := by
        show _ = _
        have h0 := hF.out
        unfold hasI at h0 ⊢
        rw [List.take_add_one, hx, Option.toList_some, List.any_append, h0]
        simp
      obtain ⟨A, rfl, c0⟩ := HL.out q x hx
      have HX := hide hx
      clear hx hF
      cases h : (x == id)
      · rw [h] at HS
        go_wp2_with fail
        exact ⟨⟨q + 1, by omega, by simp, HS, by first | rfl | trivial⟩, by simp [intOf]; omega⟩
      · have HR : Hid (hasI L id = true) := by
          show _ = _
          unfold hasI
          rw [List.any_eq_true]
          exact ⟨x, List.mem_of_getElem? HX.out, h⟩
        go_wp2_with fail
        go_ret
        exact ⟨by rw [HR.out]; rfl, rfl⟩
    · have HR : Hid (hasI L id = false) := by
        have h1 := hF.out
        rw [List.take_of_length_le (by omega)] at h1
        exact h1
      clear hF
      go_wp2_with fail
      go_ret
      exact ⟨by rw [HR.out]; rfl, rfl⟩

theorem newerOf_any (va vb : Int) (oa ob : Option Addr) (na ca nb cb : Nat) (w : World) :
    Calls Try.prog 21 #[dn va oa na ca, dn vb ob nb cb] w fun e w' => e = .returned (if va < vb then dn vb ob nb cb else dn va oa na ca) ∧ Below w.heap.size w w' := by
  by_cases h : va < vb
  · have h' : ¬ vb ≤ va := by omega
    rw [if_pos h]
    go_enter Try.func21, Try.ntmps21
    go_wp2_with fail
    refine bodyPost_ret (v := dn vb ob nb cb) (by simp [results, Try.results21, go_sem]) rfl ⟨rfl, ?_⟩
    repeat (first | with_reducible exact Below.refl _ _ | with_reducible refine Below.alloc ?_ (by simp; try omega) _ | with_reducible refine Below.setCell ?_ (by simp; try omega) _)
  · have h' : vb ≤ va := by omega
    rw [if_neg h]
    go_enter Try.func21, Try.ntmps21
    go_wp2_with fail
    refine bodyPost_ret (v := dn va oa na ca) (by simp [results, Try.results21, go_sem]) rfl ⟨rfl, ?_⟩
    repeat (first | with_reducible exact Below.refl _ _ | with_reducible refine Below.alloc ?_ (by simp; try omega) _ | with_reducible refine Below.setCell ?_ (by simp; try omega) _)

set_option maxHeartbeats 1600000 in
theorem deniedIs_ok (v : Int) (L : List Int) (o o' : Option Addr) (c c' : Nat) (w : World) (hL : IntsAt w o L) (hM : IntsAt w o' L) (hlen : L.length ≤ 100) :
    Calls Try.prog 24 #[dn v o L.length c, .int .i64 0, .int .i64 0, dn v o' L.length c'] w fun e w' => e = .returned (.bool true) ∧ Below w.heap.size w w' := by
  have HS := hide (fun W (h : IntsAt W o L) (h' : IntsAt W o' L) => sameDenied_same v L o o' c c' W h h' hlen)
  have HL := hide hL
  have HM := hide hM
  clear hL hM
  go_enter Try.func24, Try.ntmps24
  go_wp2_with fail
  have HG1 := hide (((Blks.nil w).more (.cells #[.int .i64 v, .slice o L.length c] 45) (by simp)).more (.cells #[.int .i64 v, .slice o' L.length c'] 45) (by simp))
  refine (HS.out _ (HL.out.below HG1.out.2.2) (HM.out.below HG1.out.2.2)).mono ?_
  rintro e w1 ⟨rfl, hb⟩
  have HG1w1 := hide (HG1.out.on hb)
  clear hb HG1
  go_wp2_with fail
  go_ret
  exact ⟨rfl, HG1w1.out.2.2⟩

set_option maxHeartbeats 1600000 in
theorem deniedIs_err (E : Int) (o o' : Option Addr) (c c' n' : Nat) (v' : Int) (w : World) (hE : E ≠ 0) :
    Calls Try.prog 24 #[dn 0 o 0 c, .int .i64 E, .int .i64 E, dn v' o' n' c'] w fun e w' => e = .returned (.bool true) ∧ Below w.heap.size w w' := by
  have HS := hide (fun W => sameDenied_same 0 [] o none c 0 W (fun i p h => by simp at h) (fun i p h => by simp at h) (by simp))
  have h1 : (E != 0) = true := by simpa using hE
  clear hE
  go_enter Try.func24, Try.ntmps24
  go_wp2_with fail
  have HG1 := hide (((Blks.nil w).more (.cells #[.int .i64 0, .slice o 0 c] 45) (by simp)).more (.cells #[.int .i64 0, .slice none 0 0] 45) (by simp))
  refine (HS.out _).mono ?_
  rintro e w1 ⟨rfl, hb⟩
  have HG1w1 := hide (HG1.out.on hb)
  clear hb HG1
  go_wp2_with fail
  go_ret
  exact ⟨rfl, HG1w1.out.2.2⟩
end Go.Proofs.Ytcakfmpckbmdeac
