/-
  The contract of 'code.digits'.
-/
import Derived.Test.YtcakfmpckbmdeabC3
namespace Go.Proofs.Ytcakfmpckbmdeab
open Go.RowKit

/-- the last m digits of N by base 31, the greatest first -/
def dg (N : Nat) : Nat → List Nat
  | 0 => []
  | m + 1 => (N / 31 ^ m % 31) :: dg N m
theorem dg_len (N m : Nat) : (dg N m).length = m := by induction m with | zero => rfl | succ m ih => simp [dg, ih]
theorem dg_lt (N m : Nat) : ∀ v ∈ dg N m, v < 31 := by
  induction m with
  | zero => simp [dg]
  | succ m ih => intro v hv; simp only [dg, List.mem_cons] at hv; rcases hv with rfl | hv; exact Nat.mod_lt _ (by omega); exact ih v hv
theorem dg_set (N q m : Nat) : (iv (List.replicate (q + 1) 0 ++ dg N m)).set q (Value.int .i64 ((N / 31 ^ m % 31 : Nat) : Int)) = iv (List.replicate q 0 ++ dg N (m + 1)) := by
  have e : iv (List.replicate (q + 1) 0 ++ dg N m) = iv (List.replicate q 0) ++ (Value.int .i64 ((0 : Nat) : Int) :: iv (dg N m)) := by
    simp [iv, List.replicate_succ']
  rw [e, List.set_append_right _ _ (by simp [iv])]
  simp [iv, dg]

set_option maxHeartbeats 1600000 in
set_option maxRecDepth 100000 in
theorem digits_any (N : Nat) (w : World) (hN : N < 18446744073709551616) :
    Calls Try.prog 31 #[.int .u64 (N : Int)] w fun e w' => e = .returned (.slice (some ⟨w.heap.size, 0, none⟩) 13 13) ∧ w'.ownsRow w.heap.size 3 1 (.slice (some ⟨w.heap.size, 0, none⟩) 13 13) 13 (iv (dg N 13)) ∧ Below w.heap.size w w' := by
  obtain ⟨i0, hi, hz0, hz1, hz2⟩ := info_parts info3
  have hmk : ∀ u : World, (Instr.makeSlice 41 (.int .i64 13) (.int .i64 13)).run Try.prog u = .ok (.slice (some ⟨u.heap.size, 0, none⟩) 13 13) (u.alloc (.cells (madeCells #[.int .i64 0] 13) 3)) := fun u => by
    have h := run_make (P := Try.prog) u 41 3 i0 (.int .i64 0) Try.underlying41 hi hz0 .i64 .i64 13 13 (by omega) (Int.le_refl _) (by rw [hz2]; omega) (by omega)
    simpa [hz1, Value.cells] using h
  have hown0 : (w.alloc (.cells (madeCells #[.int .i64 0] 13) 3)).ownsRow w.heap.size 3 1 (.slice (some ⟨w.heap.size, 0, none⟩) 13 13) 13 (iv (List.replicate 13 0 ++ dg N 0)) := by
    have h := World.ownsRow_lit (base := w.heap.size) (e := 3) (size := 1) w (madeCells #[.int .i64 0] 13) 13 (Nat.le_refl _) (by unfold maxLen; omega) (by rw [size_madeCells])
    rw [toList_madeCells_one] at h
    exact h
  generalize hM : madeCells #[.int .i64 0] 13 = M at hmk hown0
  clear hM
  go_enter Try.func31, Try.ntmps31
  go_wp2_with fail
  go_loopw [0, 4] (fun n i wr => ∃ q m : Nat, q + m = 13 ∧ i = .int .i64 ((q : Int) - 1) ∧ n = .int .u64 ((N / 31 ^ m : Nat) : Int) ∧ wr.ownsRow w.heap.size 3 1 (.slice (some ⟨w.heap.size, 0, none⟩) 13 13) 13 (iv (List.replicate q 0 ++ dg N m)) ∧ Below w.heap.size w wr)
    (fun _ i _ => (intOf i + 1).toNat)
  case atStart => exact ⟨13, 0, rfl, rfl, by simp, hown0, (Below.refl _ _).alloc (Nat.le_refl _) _⟩
  case round =>
    obtain ⟨q, m, hqm, rfl, rfl, hown, hb⟩ := hrel
    cases q with
    | zero =>
      go_wp2_with fail
      go_ret
      refine ⟨rfl, ?_, hb⟩
      have hm : m = 13 := by omega
      subst hm
      simpa using hown
    | succ q =>
      have hc := hown.cellAt q (by omega)
      have hz := hown.frozenAt q
      have hlt : N / 31 ^ m < 18446744073709551616 := Nat.lt_of_le_of_lt (Nat.div_le_self _ _) hN
      have hd : N / 31 ^ (m + 1) = N / 31 ^ m / 31 := by rw [Nat.pow_succ, Nat.div_div_eq_div_mul]
      have hset := dg_set N q m
      generalize hx : N / 31 ^ m = x at *
      obtain ⟨u, hu⟩ : ∃ u, (iv (List.replicate (q + 1) 0 ++ dg N m))[q]? = some u := ⟨_, List.getElem?_eq_getElem (by simp [iv, dg_len]; omega)⟩
      rw [hu] at hc
      have HX := hide hx
      have HS := hide hset
      have HD := hide hd
      have HU := hide hu
      have HQ := hide hqm
      have hq12 : q ≤ 12 := by omega
      clear hx hset hd hu hqm
      go_wp2_with fail
      refine ⟨⟨q, m + 1, by have := HQ.out; omega, rfl, by rw [HD.out]; go_num, ?_, hb.setCell (Nat.le_refl _) _⟩, by simp [intOf]⟩
      have h := (hown.stored q (.int .i64 ((x % 31 : Nat) : Int))).1
      rw [HS.out] at h
      simpa using h
end Go.Proofs.Ytcakfmpckbmdeab
