/-
  'IsBefore' (package leeboardref).
-/
import Derived.Test.YtefdnddaggpgkaaF2
import Derived.Test.YtefdnddaggpgkaaR4
namespace Go.Proofs.Ytefdnddaggpgkaa
open Go.RowKit

def befB (p q : TP) : Bool := decide (befP p q)

theorem befB_time {p q : TP} (h : (p.m != q.m) = true) : befB p q = decide (p.m < q.m) := by
  have h : p.m ≠ q.m := by simpa using h
  unfold befB
  apply decide_eq_decide.2
  unfold befP
  omega

theorem befB_gate {p q : TP} (h : (p.m != q.m) = false) (h' : (p.g != q.g) = true) : befB p q = decide (p.g < q.g) := by
  have h : p.m = q.m := by simpa using h
  have h' : p.g ≠ q.g := by simpa using h'
  unfold befB
  apply decide_eq_decide.2
  unfold befP
  omega

theorem befB_seq {p q : TP} (h : (p.m != q.m) = false) (h' : (p.g != q.g) = false) : befB p q = decide (p.s < q.s) := by
  have h : p.m = q.m := by simpa using h
  have h' : p.g = q.g := by simpa using h'
  unfold befB
  apply decide_eq_decide.2
  unfold befP
  omega

set_option maxHeartbeats 3200000 in
set_option maxRecDepth 100000 in
theorem isBefore_any (p q : TP) (w : World) : Calls Try.prog 22 #[tp p.a p.g p.s p.m p.z, tp q.a q.g q.s q.m q.z] w fun e w' => e = .returned (.bool (befB p q)) ∧ Below w.heap.size w w' := by
  have hb : Below w.heap.size w ((w.alloc (.cells #[.int .i64 p.a, .int .i64 p.g, .int .i64 p.s, .int .i64 p.m, .int .i64 p.z] 28)).alloc (.cells #[.int .i64 q.a, .int .i64 q.g, .int .i64 q.s, .int .i64 q.m, .int .i64 q.z] 28)) :=
    ((Below.refl _ _).alloc (Nat.le_refl _) _).alloc (by simp) _
  have HB := hide hb
  clear hb
  rcases hc1 : (p.m != q.m) with _ | _
  · rcases hc2 : (p.g != q.g) with _ | _
    · rw [befB_seq hc1 hc2]
      go_enter Try.func22, Try.ntmps22
      go_wp2_with fail
      go_ret
      exact ⟨rfl, HB.out⟩
    · rw [befB_gate hc1 hc2]
      go_enter Try.func22, Try.ntmps22
      go_wp2_with fail
      go_ret
      exact ⟨rfl, HB.out⟩
  · rw [befB_time hc1]
    go_enter Try.func22, Try.ntmps22
    go_wp2_with fail
    go_ret
    exact ⟨rfl, HB.out⟩
end Go.Proofs.Ytefdnddaggpgkaa
