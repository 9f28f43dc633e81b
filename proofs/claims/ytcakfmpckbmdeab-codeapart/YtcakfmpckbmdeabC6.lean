/-
  The contract of 'code.Print'.
-/
import Derived.Test.YtcakfmpckbmdeabC5
namespace Go.Proofs.Ytcakfmpckbmdeab
open Go.RowKit

/-- the values of a code: thirteen digits, and their mark -/
def codeD (N : Nat) : List Nat := dg N 13 ++ [mk (dg N 13)]
def codeL (N : Nat) : List UInt8 := (codeD N).map sgn
theorem codeD_len (N : Nat) : (codeD N).length = 14 := by simp [codeD, dg_len]
theorem codeL_len (N : Nat) : (codeL N).length = 14 := by simp [codeL, codeD_len]
theorem codeD_lt (N : Nat) : ∀ v ∈ codeD N, v < 31 := by
  intro v hv
  simp only [codeD, List.mem_append, List.mem_singleton] at hv
  rcases hv with hv | rfl
  · exact dg_lt _ _ v hv
  · exact mk_lt _

/-- what Print says: signs, and an error -/
def printV (i k f t z r : Int) : List UInt8 × Int :=
  if chk i k f t z r = 0 then (codeL (num (encV i k f t z r).1), 0) else ([], chk i k f t z r)

theorem num_lt8 (l : List UInt8) (h : l.length ≤ 8) : num l < 18446744073709551616 := by
  have h1 := num_lt ⟨l.toArray⟩ l.length (by simp [ByteArray.size])
  simp at h1
  have h2 : 256 ^ l.length ≤ 256 ^ 8 := Nat.pow_le_pow_right (by omega) h
  have h3 : (256 : Nat) ^ 8 = 18446744073709551616 := by decide
  omega

set_option maxHeartbeats 1600000 in
set_option maxRecDepth 100000 in
theorem print_any (i k f t z r : Int) (w : World) :
    Calls Try.prog 9 #[tk i k f t z r] w fun e w' => e = .returned (.tuple #[S (printV i k f t z r).1, .int .i64 (printV i k f t z r).2]) ∧ Below w.heap.size w w' := by
  by_cases h : chk i k f t z r = 0
  · obtain ⟨i0, hi, hz0, hz1, hz2⟩ := info_parts info3
    have hE : ∃ u, encV i k f t z r = (u, 0) ∧ u.length = 8 := by
      unfold encV; rw [if_pos h]; exact ⟨_, rfl, encL_len _ _ _ _ _ _⟩
    obtain ⟨u, hE, hu⟩ := hE
    have hP : printV i k f t z r = (codeL (num u), 0) := by unfold printV; rw [if_pos h, hE]
    rw [hP]
    have HE := hide hE
    have HU := hide hu
    have hN := num_lt8 u (by omega)
    generalize hM : num u = N at *
    have HM := hide hM
    have hm31 := mk_lt (dg N 13)
    clear h hE hP hu hM
    go_enter Try.func9, Try.ntmps9
    go_wp2_with fail
    refine (encode_any _ _ _ _ _ _ _).mono ?_
    rintro e w1 ⟨rfl, hb1⟩
    rw [HE.out]
    have hB1 : Below w.heap.size w w1 := ((Below.refl _ _).alloc (Nat.le_refl _) _).trans (hb1.mono (by simp))
    clear hb1
    go_wp2_with fail
    refine (number_l u _ (by have := HU.out; omega)).mono ?_
    rintro e w2 ⟨rfl, rfl⟩
    rw [HM.out]
    go_wp2_with fail
    refine (digits_any N _ hN).mono ?_
    rintro e w3 ⟨rfl, hown, hb3⟩
    have hB3 := hB1.trans (hb3.mono hB1.size)
    have hs3 := hb3.size
    go_wp2_with fail
    refine (check37 _ _ _ (dg N 13) _ (dg_len _ _) (by omega) (dg_lt _ _) (fun j v h => hown.cells rfl j _ (iv_get h))).mono ?_
    rintro e w4 ⟨rfl, rfl⟩
    go_wp2_with (at_builtin; refine wpList_append_own _ rfl (.tmp 18) (.tmp 21) 41 rfl w2.heap.size 3 i0 (.int .i64 0) 1 8 Try.underlying41 hi hz0 hz1 hz2 rfl (by decide) _ _ _ rfl (hown.alloc _) ⟨w4.heap.size, 0, none⟩ 1 1 [.int .i64 (mk (dg N 13) : Int)] rfl rfl (cell_one_new _ _ _) (by intro u hu; simp at hu; subst hu; rfl) (by unfold maxLen; omega) (by omega) (by simp; omega) ?_; intro v' w5 hown5 hgrow5 hnil5)
    rw [show iv (dg N 13) ++ [Value.int .i64 (mk (dg N 13) : Int)] = iv (codeD N) by simp [iv, codeD]] at hown5
    have hB5 : Below w.heap.size w w5 := (hB3.alloc hB3.size _).grown hgrow5 (by have := hB3.size; simp; omega) (fun q hq => by cases hq; exact hB1.size)
    clear hgrow5 hnil5
    obtain ⟨g, cap, rfl⟩ : ∃ g cap, v' = .slice (some ⟨g, 0, none⟩) 14 cap := by
      rcases hown5.2 with ⟨_, h⟩ | ⟨g, cap, cur, h, _⟩
      · omega
      · exact ⟨g, cap, h⟩
    refine (put36 _ _ _ (codeD N) _ (codeD_len _) (by omega) (codeD_lt _) (fun j v h => hown5.cells rfl j _ (iv_get h))).mono ?_
    rintro e w6 ⟨rfl, hb6⟩
    have hB6 := hB5.trans (hb6.mono hB5.size)
    simp only [S]
    go_wp2_with fail
    go_ret2
    exact ⟨rfl, hB6⟩
  · have hP : printV i k f t z r = ([], chk i k f t z r) := by unfold printV; rw [if_neg h]
    have hE : encV i k f t z r = ([], chk i k f t z r) := by unfold encV; rw [if_neg h]
    have h' : (chk i k f t z r != 0) = true := by simpa using h
    rw [hP]
    have HE := hide hE
    clear h hP hE
    go_enter Try.func9, Try.ntmps9
    go_wp2_with fail
    refine (encode_any _ _ _ _ _ _ _).mono ?_
    rintro e w1 ⟨rfl, hb⟩
    rw [HE.out]
    go_wp2_with fail
    go_ret2
    exact ⟨rfl, ((Below.refl _ _).alloc (Nat.le_refl _) _).trans (hb.mono (by simp))⟩
end Go.Proofs.Ytcakfmpckbmdeab
