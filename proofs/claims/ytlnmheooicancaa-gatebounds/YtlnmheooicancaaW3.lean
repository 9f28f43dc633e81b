/-
  'SameTaps' (package leeboardref), of the same taps.
-/
import Derived.Test.YtlnmheooicancaaR4
namespace Go.Proofs.Ytlnmheooicancaa
open Go.RowKit

set_option maxHeartbeats 3200000 in
set_option maxRecDepth 100000 in
theorem sameTaps_same (L : List TP) (o o' : Option Addr) (c c' : Nat) (w : World) (hL : TapsAt w o L) (hM : TapsAt w o' L) (hlen : L.length ≤ 100) :
    Calls Try.prog 8 #[.slice o L.length c, .slice o' L.length c'] w fun e w' => e = .returned (.bool true) ∧ Below w.heap.size w w' := by
  have HL := hide hL
  have HM := hide hM
  clear hL hM
  go_enter Try.func8, Try.ntmps8
  go_wp2_with fail
  go_loopw [5] (fun j wr => ∃ (q : Nat), q ≤ L.length ∧ j = .int .i64 q ∧ Below w.heap.size w wr) (fun j _ => L.length - (intOf j).toNat)
  case atStart => exact ⟨0, Nat.zero_le _, rfl, Below.refl _ _⟩
  case round =>
    obtain ⟨q, hq, rfl, hbr⟩ := hrel
    by_cases hgo : q < L.length
    · obtain ⟨p, hp⟩ : ∃ p, L[q]? = some p := ⟨L[q], by simp [hgo]⟩
      obtain ⟨A, rfl, c0, c1, c2, c3, c4⟩ := (HL.out.below hbr) q p hp
      obtain ⟨A', rfl, d0, d1, d2, d3, d4⟩ := (HM.out.below hbr) q p hp
      clear hp
      go_wp2_with fail
      go_region
      go_wp2_with fail
      exact ⟨⟨q + 1, by omega, by simp, hbr.drew⟩, by simp [intOf]; omega⟩
    · go_wp2_with fail
      go_ret
      exact ⟨rfl, hbr⟩
end Go.Proofs.Ytlnmheooicancaa
