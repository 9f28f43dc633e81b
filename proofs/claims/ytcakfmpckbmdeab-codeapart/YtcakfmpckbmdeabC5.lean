/-
  The contracts of 'code.Mark', 'code.Print'.
-/
import Derived.Test.YtcakfmpckbmdeabC4
import Derived.Test.YtcakfmpckbmdeabT7
namespace Go.Proofs.Ytcakfmpckbmdeab
open Go.RowKit

/-- what Mark says of signs -/
def markV (l : List UInt8) : List UInt8 × Int :=
  if 20 < l.length then ([], 2) else match vals l with
    | some [] => ([], 1)
    | some vs => ([sgn (mk vs)], 0)
    | none => ([], 1)

theorem mk_lt (l : List Nat) : mk l < 31 := Nat.mod_lt _ (by omega)

theorem iv_get {l : List Nat} {j v : Nat} (h : l[j]? = some v) : (iv l)[j]? = some (.int .i64 (v : Int)) := by simp [iv, h]

set_option maxHeartbeats 1600000 in
set_option maxRecDepth 100000 in
theorem mark_any (s : ByteArray) (w : World) (hmax : s.size ≤ maxLen) :
    Calls Try.prog 37 #[.string s] w fun e w' => e = .returned (.tuple #[S (markV s.data.toList).1, .int .i64 (markV s.data.toList).2]) ∧ Below w.heap.size w w' := by
  have hlen : s.data.toList.length = s.size := by simp
  unfold maxLen at hmax
  by_cases h20 : 20 < s.size
  · have hm : markV s.data.toList = ([], 2) := by unfold markV; rw [if_pos (by omega)]
    rw [hm]
    clear hm
    have h20' : ((20 : Int) < (s.size : Int)) := by omega
    go_enter Try.func37, Try.ntmps37
    go_wp2_with fail
    go_ret2
    exact ⟨rfl, Below.refl _ _⟩
  · have hd : decide ((20 : Int) < (s.size : Int)) = false := by simp; omega
    have H20 := hide h20
    clear h20
    generalize hR : markV s.data.toList = R
    have HR := hide hR
    clear hR
    go_enter Try.func37, Try.ntmps37
    go_wp2_with fail
    refine (valuesOf_any s _ (by have := unhide H20; omega)).mono ?_
    rintro e w1 ⟨hb, ⟨vs, hv, rfl, hown⟩ | ⟨hv, rfl⟩⟩
    · have hl := vals_len hv
      have h20'' := unhide H20
      by_cases h0 : s.size = 0
      · have hr : R = ([], 1) := by
          rw [← HR.out]; unfold markV; rw [if_neg (by omega), hv]
          have : vs = [] := List.length_eq_zero_iff.1 (by omega)
          rw [this]
        have HRe := hide hr
        have h0' : ((s.size : Int) == 0) = true := by simp [h0]
        have H0 := hide h0
        clear h0 hr hlen hl hv hown h20''
        go_wp2_with fail
        go_ret2
        rw [HRe.out]
        exact ⟨rfl, hb⟩
      · have hr : R = ([sgn (mk vs)], 0) := by
          rw [← HR.out]; unfold markV; rw [if_neg (by omega), hv]
          cases vs with
          | nil => simp at hl; omega
          | cons v vs => rfl
        have HRe := hide hr
        have h0' : ((s.size : Int) == 0) = false := beq_eq_false_iff_ne.2 (by omega)
        have hlt := vals_lt hv
        have hm31 := mk_lt vs
        have HL := hide (show vs.length = s.size by omega)
        have HV := hide hv
        have HLT := hide hlt
        have HOWN := hide hown
        clear h0 hr hlen hl hv hlt hown
        go_wp2_with fail
        refine (check37 _ _ _ vs _ HL.out (by omega) HLT.out (fun j v h => HOWN.out.cells rfl j _ (iv_get h))).mono ?_
        rintro e w2 ⟨rfl, rfl⟩
        go_wp2_with fail
        refine (put36 ⟨w2.heap.size, 0, none⟩ 1 1 [mk vs] _ rfl (by omega) (by intro v hv; simp at hv; omega) (fun j v h => cell_one_new _ _ _ j _ (by have := iv_get h; simpa [iv] using this))).mono ?_
        rintro e w3 ⟨rfl, hb3⟩
        simp only [S]
        go_wp2_with fail
        go_ret2
        rw [HRe.out]
        exact ⟨rfl, (hb.alloc hb.size _).trans (hb3.mono (by have := hb.size; simp; omega))⟩
    · have hr : R = ([], 1) := by
        rw [← HR.out]; unfold markV; rw [if_neg (by have := unhide H20; omega), hv]
      have HRe := hide hr
      clear hr hlen hv
      go_wp2_with fail
      go_ret2
      rw [HRe.out]
      exact ⟨rfl, hb⟩
end Go.Proofs.Ytcakfmpckbmdeab
