/-
  The contract of 'ValueOf' (package leeboardref).
-/
import Derived.Test.YtcakfmpckbmdeabC3
namespace Go.Proofs.Ytcakfmpckbmdeab
open Go.RowKit

theorem vi_of_sgn {b : UInt8} {k : Nat} (hk : k < 31) (h : sgn k = b) : vi b = (k : Int) := by rw [← h]; exact vof_sgn_all ⟨k, hk⟩
theorem vi_none {b : UInt8} (h : ∀ j, j < 31 → sgn j ≠ b) : vi b = -1 := by
  have g := vi_all ⟨b.toNat, b.toNat_lt⟩
  rw [← byte_cases b] at g
  rcases g with ⟨g, _⟩ | ⟨g0, g1, g2⟩
  · exact g
  · exact absurd g2 (h _ (by omega))

set_option maxHeartbeats 1600000 in
set_option maxRecDepth 100000 in
theorem valueOf_any (b : UInt8) (w : World) :
    Calls Try.prog 38 #[.int .u8 (b.toNat : Int)] w fun e w' => e = .returned (.int .i64 (vi b)) ∧ w' = w := by
  go_enter Try.func38, Try.ntmps38
  go_wp2
  go_loop [3] (fun i => ∃ k : Nat, k ≤ 31 ∧ i = .int .i64 k ∧ ∀ j, j < k → sgn j ≠ b) (fun i => 31 - (intOf i).toNat)
  case atStart => exact ⟨0, Nat.zero_le _, rfl, fun j h => by omega⟩
  case round =>
    obtain ⟨k, hk, rfl, hno⟩ := hrel
    have HNO := hide hno
    clear hno
    by_cases hlt : k < 31
    · have hidx : ∀ h, (⟨#[48, 49, 50, 51, 52, 53, 54, 55, 56, 57, 65, 66, 67, 68, 69, 70, 71, 72, 74, 75, 76, 77, 78, 80, 81, 82, 83, 84, 85, 86, 87]⟩ : ByteArray)[k]'h = sgn k := fun h => sg_get ⟨k, hlt⟩
      have hvI : (k : Int) < 31 := by omega
      by_cases heq : sgn k = b
      · have hbq : (((sgn k).toNat : Int) == (b.toNat : Int)) = true := by rw [heq]; simp
        have HE := hide heq
        clear heq
        go_wp2
        go_ret
        exact ⟨ret_int (vi_of_sgn hlt HE.out).symm, rfl⟩
      · have hbq : (((sgn k).toNat : Int) == (b.toNat : Int)) = false := by
          rw [beq_eq_false_iff_ne]; intro h; apply heq; apply UInt8.toNat_inj.1; omega
        have HE := hide heq
        clear heq
        go_wp2
        refine ⟨⟨k + 1, by omega, by go_num, fun j hj => ?_⟩, by simp [intOf]; omega⟩
        by_cases hjk : j = k
        · rw [hjk]; exact HE.out
        · exact HNO.out j (by omega)
    · go_wp2
      go_ret
      exact ⟨ret_int (vi_none (fun j hj => HNO.out j (by omega))).symm, rfl⟩
end Go.Proofs.Ytcakfmpckbmdeab
