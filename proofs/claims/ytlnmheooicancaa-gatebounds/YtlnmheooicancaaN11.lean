/-
  'HasInt', 'NewerOf' (the document's answer), 'deniedIs' (package leeboardlaw).
-/
import Derived.Test.YtlnmheooicancaaN9
import Derived.Test.YtlnmheooicancaaN2
namespace Go.Proofs.Ytlnmheooicancaa
open Go.RowKit

set_option maxHeartbeats 1600000 in
theorem hasInt_any (L : List Int) (id : Int) (o : Option Addr) (c : Nat) (w : World) (hL : IntsAt w o L) (hlen : L.length ≤ 9223372036854775807) :
    Calls Try.prog 7 #[.slice o L.length c, .int .i64 id] w fun e w' => e = .returned (.bool (hasI L id)) ∧ w' = w := by
  have HL := hide hL
  clear hL
  go_enter Try.func7, Try.ntmps7
  go_wp2_with fail
  go_loopw [5] (fun j wr => ∃ (q : Nat), q ≤ L.length ∧ j = .int .i64 q ∧ Hid (hasI (L.take q) id = false) ∧ wr = w) (fun j _ => L.length - (intOf j).toNat)
  case atStart => exact ⟨0, Nat.zero_le _, rfl, by show _ = _; simp [hasI], rfl⟩
  case round =>
    obtain ⟨q, hq, rfl, hF, hw⟩ := hrel
    subst hw
    by_cases hgo : q < L.length
    · obtain ⟨x, hx⟩ : ∃ x, L[q]? = some x := ⟨L[q], by simp [hgo]⟩
      have HS : Hid (hasI (L.take (q + 1)) id = (x == id)) := by
        show _ = _
        have h0 := hF.out
        unfold hasI at h0 ⊢
        rw [List.take_add_one, hx, Option.toList_some, List.any_append, h0]
        simp
      obtain ⟨A, rfl, c0⟩ := HL.out q x hx
      have HX := hide hx
      clear hx hF
      cases h : (x == id)
      · rw [h] at HS
        go_wp2_with fail
        exact ⟨⟨q + 1, by omega, by simp, HS, by first | rfl | trivial⟩, by simp [intOf]; omega⟩
      · have HR : Hid (hasI L id = true) := by
          show _ = _
          unfold hasI
          rw [List.any_eq_true]
          exact ⟨x, List.mem_of_getElem? HX.out, h⟩
        go_wp2_with fail
        go_ret
        exact ⟨by rw [HR.out]; rfl, rfl⟩
    · have HR : Hid (hasI L id = false) := by
        have h1 := hF.out
        rw [List.take_of_length_le (by omega)] at h1
        exact h1
      clear hF
      go_wp2_with fail
      go_ret
      exact ⟨by rw [HR.out]; rfl, rfl⟩

end Go.Proofs.Ytlnmheooicancaa
