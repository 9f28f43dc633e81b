/-
  Plain facts on codes: what is printed is parsed as it was; a code's weighted sum; one sign that is another one, two that stand the other way round.
-/
import Derived.Test.YtcakfmpckbmdeabC9
namespace Go.Proofs.Ytcakfmpckbmdeab

theorem digs_num (b0 b1 b2 b3 b4 b5 b6 b7 : UInt8) : digs (num [b0, b1, b2, b3, b4, b5, b6, b7]) 8 8 = [b0, b1, b2, b3, b4, b5, b6, b7] := by
  have h0 := b0.toNat_lt; have h1 := b1.toNat_lt; have h2 := b2.toNat_lt; have h3 := b3.toNat_lt
  have h4 := b4.toNat_lt; have h5 := b5.toNat_lt; have h6 := b6.toNat_lt; have h7 := b7.toNat_lt
  generalize hN : num [b0, b1, b2, b3, b4, b5, b6, b7] = N
  have e : digs N 8 8 = [UInt8.ofNat (N / 72057594037927936), UInt8.ofNat (N / 281474976710656), UInt8.ofNat (N / 1099511627776), UInt8.ofNat (N / 4294967296), UInt8.ofNat (N / 16777216), UInt8.ofNat (N / 65536), UInt8.ofNat (N / 256), UInt8.ofNat N] := by
    simp [digs, List.range_succ]
  rw [e]
  simp only [num, List.foldl_cons, List.foldl_nil] at hN
  simp only [List.cons.injEq, and_true]
  refine ⟨?_, ?_, ?_, ?_, ?_, ?_, ?_, ?_⟩
  all_goals apply byte_ext; simp only [UInt8.toNat_ofNat']; omega

theorem wn_dg (N : Nat) : ∀ (m acc : Nat), (dg N m).foldl (fun n v => (n * 31 + v) % 18446744073709551616) (acc % 18446744073709551616) = (acc * 31 ^ m + N % 31 ^ m) % 18446744073709551616
  | 0, acc => by simp [dg, Nat.mod_one]
  | m + 1, acc => by
    simp only [dg, List.foldl_cons]
    have e1 : (acc % 18446744073709551616 * 31 + N / 31 ^ m % 31) % 18446744073709551616 = (acc * 31 + N / 31 ^ m % 31) % 18446744073709551616 := by omega
    rw [e1, wn_dg N m]
    have e2 : N % 31 ^ (m + 1) = N % 31 ^ m + 31 ^ m * (N / 31 ^ m % 31) := by rw [Nat.pow_succ, Nat.mod_mul]
    rw [e2]
    congr 1
    rw [Nat.add_mul, Nat.pow_succ, Nat.mul_comm (N / 31 ^ m % 31), Nat.mul_assoc acc 31, Nat.mul_comm 31 (31 ^ m)]
    omega

theorem wn_code (N : Nat) (h : N < 18446744073709551616) : wn (dg N 13) = N := by
  have e := wn_dg N 13 0
  have h31 : (31 : Nat) ^ 13 = 24417546297445042591 := by decide
  rw [h31] at e
  unfold wn
  rw [show (0 : Nat) % 18446744073709551616 = 0 from rfl] at e
  rw [e]
  omega

theorem take_codeL (N : Nat) : (codeL N).take 13 = (dg N 13).map sgn := by
  unfold codeL codeD
  rw [List.map_append, List.take_append_of_le_length (by simp [dg_len]), List.take_of_length_le (by simp [dg_len])]

theorem nin_code (N : Nat) (h : N < 18446744073709551616) : nin (codeL N) = some N := by
  unfold nin
  rw [if_pos (codeL_len N), take_codeL, vals_sgn (dg_lt N 13)]
  simp [wn_code N h]

theorem parse_print {i k f t z r : Nat} (h : Right i k f t z r) : parseV (codeL (num (encL i k f t z r))) = (tk i k f t z r, 0) := by
  have hN := num_lt8 (encL i k f t z r) (by rw [encL_len]; omega)
  have hd : digs (num (encL i k f t z r)) 8 8 = encL i k f t z r := by rw [encL_eq]; exact digs_num _ _ _ _ _ _ _ _
  unfold parseV
  rw [nin_code _ hN]
  simp only [hd, dec_enc h, true_and, if_true]

theorem printV_right {i k f t z r : Nat} (h : Right i k f t z r) : printV (i : Int) k f t z r = (codeL (num (encL i k f t z r)), 0) := by
  have hc := chk_right h
  unfold printV encV
  rw [if_pos hc, if_pos hc]
  simp

/-- the weighted sum, from a weight on -/
def wsF : Nat → List Nat → Nat
  | _, [] => 0
  | k, v :: l => v * (k + 2) + wsF (k + 1) l
theorem wsp_wsF (l : List Nat) : ∀ (s k : Nat), (l.foldl (fun p v => (p.1 + v * (p.2 + 2), p.2 + 1)) (s, k)).1 = s + wsF k l := by
  induction l with
  | nil => intro s k; simp [wsF]
  | cons v l ih => intro s k; rw [List.foldl_cons, ih]; simp [wsF]; omega
theorem ws_wsF (l : List Nat) : ws l = wsF 0 l := by simp [ws, wsp, wsp_wsF]

theorem wsF_set (l : List Nat) : ∀ (k j v u : Nat), l[j]? = some v → wsF k (l.set j u) + v * (k + j + 2) = wsF k l + u * (k + j + 2) := by
  induction l with
  | nil => intro k j v u h; simp at h
  | cons a l ih =>
    intro k j v u h
    cases j with
    | zero => simp at h; subst h; simp [wsF]; omega
    | succ j =>
      simp at h
      have := ih (k + 1) j v u h
      simp only [List.set_cons_succ, wsF]
      rw [show k + 1 + j + 2 = k + (j + 1) + 2 by omega] at this
      omega

/-- the whole sum of a code: the mark's weight is 1 -/
def tot (l : List Nat) : Nat := ws (l.take 13) + l.getD 13 0

theorem mk_fits (l : List Nat) : (ws l + mk l) % 31 = 0 := by unfold mk; omega

theorem tot_code (N : Nat) : tot (codeD N) % 31 = 0 := by
  unfold tot codeD
  rw [List.take_append_of_le_length (by simp [dg_len]), List.take_of_length_le (by simp [dg_len])]
  rw [show (dg N 13 ++ [mk (dg N 13)]).getD 13 0 = mk (dg N 13) by simp [List.getD, dg_len]]
  exact mk_fits _

theorem cancel31 (a b w : Nat) (ha : a < 31) (hb : b < 31) (hw : 1 ≤ w) (hw' : w < 31) (h : (a * w) % 31 = (b * w) % 31) : a = b := by
  have key : ∀ w : Fin 31, ∀ a b : Fin 31, w.val ≠ 0 → (a.val * w.val) % 31 = (b.val * w.val) % 31 → a.val = b.val := by decide +kernel
  exact key ⟨w, hw'⟩ ⟨a, ha⟩ ⟨b, hb⟩ (by simp; omega) h
end Go.Proofs.Ytcakfmpckbmdeab
