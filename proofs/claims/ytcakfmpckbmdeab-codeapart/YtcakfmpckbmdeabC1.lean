/-
  Signs and their values; the contracts of 'strings.IndexByte' and 'code.valuesOf'.
-/
import Derived.Test.YtcakfmpckbmdeabT3
import Derived.Lib.Bytealg
import Derived.Laws.Externs
namespace Go.Proofs.Ytcakfmpckbmdeab
open Go.RowKit

/-- the 31 signs -/
def SG : List UInt8 := [48, 49, 50, 51, 52, 53, 54, 55, 56, 57, 65, 66, 67, 68, 69, 70, 71, 72, 74, 75, 76, 77, 78, 80, 81, 82, 83, 84, 85, 86, 87]
def vi (b : UInt8) : Int := Lib.indexByte SG b
/-- the value of a sign -/
def vof (b : UInt8) : Option Nat := if vi b < 0 then none else some (vi b).toNat
def sgn (v : Nat) : UInt8 := SG.getD v 0

theorem vi_all : ∀ n : Fin 256, (vi (UInt8.ofNat n.val) = -1 ∧ ∀ v : Fin 31, sgn v.val ≠ UInt8.ofNat n.val) ∨ (0 ≤ vi (UInt8.ofNat n.val) ∧ vi (UInt8.ofNat n.val) < 31 ∧ sgn (vi (UInt8.ofNat n.val)).toNat = UInt8.ofNat n.val) := by decide +kernel
theorem vof_sgn_all : ∀ v : Fin 31, vi (sgn v.val) = (v.val : Int) := by decide +kernel

theorem byte_cases (b : UInt8) : b = UInt8.ofNat (⟨b.toNat, b.toNat_lt⟩ : Fin 256).val := by
  apply UInt8.toNat_inj.1; simp

theorem vof_none {b : UInt8} : vof b = none ↔ vi b = -1 := by
  unfold vof
  have h := vi_all ⟨b.toNat, b.toNat_lt⟩
  rw [← byte_cases b] at h
  by_cases hv : vi b < 0
  · rw [if_pos hv]; simp; omega
  · rw [if_neg hv]; simp; omega
theorem vof_some {b : UInt8} {v : Nat} : vof b = some v ↔ vi b = (v : Int) := by
  unfold vof
  by_cases hv : vi b < 0
  · rw [if_pos hv]; simp; omega
  · rw [if_neg hv]; simp; omega
theorem vof_lt {b : UInt8} {v : Nat} (h : vof b = some v) : v < 31 ∧ sgn v = b := by
  have hv := vof_some.1 h
  have g := vi_all ⟨b.toNat, b.toNat_lt⟩
  rw [← byte_cases b] at g
  rcases g with ⟨g, _⟩ | ⟨g0, g1, g2⟩
  · omega
  · rw [hv] at g1 g2; exact ⟨by omega, by simpa using g2⟩
theorem vof_sgn {v : Nat} (h : v < 31) : vof (sgn v) = some v := vof_some.2 (vof_sgn_all ⟨v, h⟩)

theorem idx46 (c : Int) (w : World) : (callFunc 99 #[.string ⟨SG.toArray⟩, .int .u8 c]).run Try.prog w = .ok (.value (.int .i64 (Lib.indexByte SG c.toNat.toUInt8))) w := by
  rw [run_callFunc_extern Try.func99 (by kernel_rfl) (by kernel_rfl) (by kernel_rfl) (e := Extern.BytealgIndexByte.indexByte) (by kernel_rfl), Lib.run_indexByteString]
  rfl

set_option maxRecDepth 100000 in
theorem idx_any (s : ByteArray) (hs : s = ⟨SG.toArray⟩) (b : UInt8) (w : World) :
    Calls Try.prog 93 #[.string s, .int .u8 (b.toNat : Int)] w fun e w' => e = .returned (.int .i64 (vi b)) ∧ w' = w := by
  have h46 : ∀ W : World, (callFunc 99 #[.string s, .int .u8 (b.toNat : Int)]).run Try.prog W = .ok (.value (.int .i64 (vi b))) W := fun W => by
    rw [hs, idx46]; simp [vi]
  clear hs
  go_enter Try.func93, Try.ntmps93
  go_wp2
  go_ret
  exact ⟨rfl, rfl⟩
end Go.Proofs.Ytcakfmpckbmdeab
