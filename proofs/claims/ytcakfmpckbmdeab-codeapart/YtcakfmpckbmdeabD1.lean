/-
  The document's answers 'AreSigns', 'MarkOf' (package leeboardref).
-/
import Derived.Test.YtcakfmpckbmdeabC11
namespace Go.Proofs.Ytcakfmpckbmdeab
open Go.RowKit

theorem vals_isSome (l : List UInt8) (h : ∀ b ∈ l, vof b ≠ none) : ∃ vs, vals l = some vs := by
  induction l with
  | nil => exact ⟨[], rfl⟩
  | cons a l ih =>
    obtain ⟨vs, hv⟩ := ih (fun b hb => h b (by simp [hb]))
    cases ha : vof a with
    | none => exact absurd ha (h a (by simp))
    | some v => exact ⟨v :: vs, vals_cons_some.2 ⟨v, vs, ha, hv, rfl⟩⟩

set_option maxHeartbeats 1600000 in
set_option maxRecDepth 100000 in
theorem areSigns_any (s : ByteArray) (w : World) (hs : s.size ≤ 20) :
    Calls Try.prog 11 #[.string s] w fun e w' => e = .returned (.bool (vals s.data.toList).isSome) ∧ w' = w := by
  go_enter Try.func11, Try.ntmps11
  go_wp2
  go_loop [3] (fun i => ∃ k : Nat, k ≤ s.size ∧ i = .int .i64 k ∧ ∀ j (h : j < s.size), j < k → vof s[j] ≠ none) (fun i => s.size - (intOf i).toNat)
  case atStart => exact ⟨0, Nat.zero_le _, rfl, fun j _ h => by omega⟩
  case round =>
    obtain ⟨k, hk, rfl, hno⟩ := hrel
    have HNO := hide hno
    clear hno
    by_cases hlt : k < s.size
    · cases hv : vof s[k] with
      | none =>
        have hvn := hide (vof_none.1 hv)
        have HV := hide hv
        clear hv
        go_wp2_with (go_at_call 38; refine (valueOf_any _ _).mono ?_; rintro e w' ⟨rfl, rfl⟩; rw [hvn.out])
        go_ret
        refine ⟨?_, rfl⟩
        have hm : s[k] ∈ s.data.toList := by
          have : s[k] = s.data.toList[k]'(by simpa using hlt) := rfl
          rw [this]; exact List.getElem_mem _
        rw [vals_none hm HV.out]; rfl
      | some v =>
        have hvn := hide (vof_some.1 hv)
        have HV := hide hv
        clear hv
        go_wp2_with (go_at_call 38; refine (valueOf_any _ _).mono ?_; rintro e w' ⟨rfl, rfl⟩; rw [hvn.out])
        refine ⟨⟨k + 1, by omega, by go_num, fun j h hj => ?_⟩, by simp [intOf]; omega⟩
        by_cases hjk : j = k
        · subst hjk; rw [HV.out]; simp
        · exact HNO.out j h (by omega)
    · go_wp2
      go_ret
      refine ⟨?_, rfl⟩
      obtain ⟨vs, hv⟩ := vals_isSome s.data.toList (fun b hb => by
        obtain ⟨j, hj, rfl⟩ := List.getElem_of_mem hb
        exact HNO.out j (by simpa using hj) (by have : j < s.size := by simpa using hj
                                                omega))
      rw [hv]; rfl

theorem vals_get' {l : List UInt8} {vs : List Nat} (h : vals l = some vs) (n : Nat) (hn : n < l.length) : ∃ v, vs[n]? = some v ∧ vof l[n] = some v := by
  induction l generalizing vs n with
  | nil => simp at hn
  | cons a l ih =>
    obtain ⟨u, us, h1, h2, rfl⟩ := vals_cons_some.1 h
    cases n with
    | zero => exact ⟨u, rfl, h1⟩
    | succ n => simpa using ih h2 n (by simpa using hn)
theorem mk_fits' (l : List Nat) : (ws l + mk l) % 31 = 0 := by unfold mk; omega
theorem mk_lt' (l : List Nat) : mk l < 31 := Nat.mod_lt _ (by omega)
theorem sg_cut : ∀ v : Fin 31, (⟨#[48, 49, 50, 51, 52, 53, 54, 55, 56, 57, 65, 66, 67, 68, 69, 70, 71, 72, 74, 75, 76, 77, 78, 80, 81, 82, 83, 84, 85, 86, 87]⟩ : ByteArray).extract v.val (v.val + 1) = ⟨#[sgn v.val]⟩ := by decide +kernel

theorem run_cut (v : Nat) (hv : v < 31) (W : World) : (Instr.slice 9 (.string ⟨#[48, 49, 50, 51, 52, 53, 54, 55, 56, 57, 65, 66, 67, 68, 69, 70, 71, 72, 74, 75, 76, 77, 78, 80, 81, 82, 83, 84, 85, 86, 87]⟩) (some (.int .i64 (v : Int))) (some (.int .i64 ((v : Int) + 1))) none).run Try.prog W = .ok (.string ⟨#[sgn v]⟩) W := by
  have h := run_slice_string (P := Try.prog) W 9 ⟨#[48, 49, 50, 51, 52, 53, 54, 55, 56, 57, 65, 66, 67, 68, 69, 70, 71, 72, 74, 75, 76, 77, 78, 80, 81, 82, 83, 84, 85, 86, 87]⟩ .i64 .i64 (v : Int) ((v : Int) + 1) Try.underlying9 (by omega) (by omega) (by show (v : Int) + 1 ≤ ((31 : Nat) : Int); omega)
  rw [h, show ((v : Int) + 1).toNat = v + 1 by omega, Int.toNat_natCast, sg_cut ⟨v, hv⟩]

theorem mk_unique {W v : Nat} {l : List Nat} (hW : ws l = W) (hv : v < 31) (h : (W + v) % 31 = 0) : v = mk l := by
  unfold mk; rw [hW]; omega

end Go.Proofs.Ytcakfmpckbmdeab
