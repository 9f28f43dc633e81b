/-
  The contract of 'ticket.Encode'.
-/
import Derived.Test.YtcakfmpckbmdeabT6
namespace Go.Proofs.Ytcakfmpckbmdeab
open Go.RowKit

/-- the bytes of a ticket that is right -/
def encL (i k f t z r : Nat) : List UInt8 := putL 2 [i, f, t] ++ putL 1 [k * 16 + z, r]

structure Right (i k f t z r : Nat) : Prop where
  i1 : 1 ≤ i
  i2 : i ≤ 9999
  k1 : 1 ≤ k
  k2 : k ≤ 3
  f2 : f ≤ 9999
  t2 : t ≤ 9999
  ft : f ≤ t
  z1 : 1 ≤ z
  z2 : z ≤ 15
  r2 : r ≤ 9
  r3 : k = 3 → 2 ≤ r
  r0 : k ≠ 3 → r = 0

theorem right_of (i k f t z r : Int) (h : chk i k f t z r = 0) : ∃ i' k' f' t' z' r' : Nat, i = i' ∧ k = k' ∧ f = f' ∧ t = t' ∧ z = z' ∧ r = r' ∧ Right i' k' f' t' z' r' := by
  unfold chk at h
  have a1 : inR i f t z = true := by cases e : inR i f t z <;> simp_all
  rw [if_neg (by simp [a1])] at h
  have a2 : wi k 1 3 = true := by cases e : wi k 1 3 <;> simp_all
  rw [if_neg (by simp [a2])] at h
  have a3 : ¬ t < f := by intro e; simp [e] at h
  rw [if_neg a3] at h
  have a4 : ridesF k r = true := by cases e : ridesF k r <;> simp_all
  simp only [inR, Bool.and_eq_true, wi_iff] at a1
  rw [wi_iff] at a2
  have a5 : (k = 3 → 2 ≤ r ∧ r ≤ 9) ∧ (k ≠ 3 → r = 0) := by
    unfold ridesF at a4
    by_cases hk : k = 3
    · rw [if_pos hk, wi_iff] at a4; exact ⟨fun _ => a4, fun h => absurd hk h⟩
    · rw [if_neg hk] at a4; exact ⟨fun h => absurd h hk, fun _ => by simpa using a4⟩
  refine ⟨i.toNat, k.toNat, f.toNat, t.toNat, z.toNat, r.toNat, by omega, by omega, by omega, by omega, by omega, ?_, ?_⟩
  · have := a5.1; have := a5.2; omega
  · have := a5.1; have := a5.2
    exact ⟨by omega, by omega, by omega, by omega, by omega, by omega, by omega, by omega, by omega, by omega, by omega, by omega⟩

theorem chk_right {i k f t z r : Nat} (h : Right i k f t z r) : chk (i : Int) k f t z r = 0 := by
  obtain ⟨i1, i2, k1, k2, f2, t2, ft, z1, z2, r2, r3, r0⟩ := h
  have a1 : inR (i : Int) f t z = true := by simp only [inR, Bool.and_eq_true, wi_iff]; omega
  have a2 : wi (k : Int) 1 3 = true := by rw [wi_iff]; omega
  have a4 : ridesF (k : Int) r = true := by
    unfold ridesF
    by_cases hk : (k : Int) = 3
    · rw [if_pos hk, wi_iff]; omega
    · rw [if_neg hk]; simp; omega
  simp [chk, a1, a2, a4]
  omega

set_option maxHeartbeats 1600000 in
set_option maxRecDepth 100000 in
theorem encode_bad (i k f t z r : Int) (w : World) (h : chk i k f t z r ≠ 0) :
    Calls Try.prog 30 #[tk i k f t z r] w fun e w' => e = .returned (.tuple #[S [], .int .i64 (chk i k f t z r)]) ∧ Below w.heap.size w w' := by
  have h' : (chk i k f t z r != 0) = true := by simpa using h
  have H := hide h
  clear h
  go_enter Try.func30, Try.ntmps30
  go_wp2_with fail
  refine (check_any _ _ _ _ _ _ _).mono ?_
  rintro e w1 ⟨rfl, hb⟩
  go_wp2_with fail
  go_ret2
  exact ⟨rfl, ((Below.refl _ _).alloc (Nat.le_refl _) _).trans (hb.mono (by simp))⟩

theorem app_mk (a b : List UInt8) : (⟨a.toArray⟩ : ByteArray) ++ ⟨b.toArray⟩ = ⟨(a ++ b).toArray⟩ := by
  apply ByteArray.ext; simp

theorem cells3 (w : World) (a b c : Nat) (T : TypeId) (j n : Nat) (h : [a, b, c][j]? = some n) :
    (w.alloc (.cells #[.int .u64 (a : Int), .int .u64 (b : Int), .int .u64 (c : Int)] T)).cell? ((⟨w.heap.size, 0, none⟩ : Addr).add j) = some (.int .u64 (n : Int)) := by
  match j, h with
  | 0, h => simp at h; subst h; simp [go_sem]
  | 1, h => simp at h; subst h; simp [go_sem]
  | 2, h => simp at h; subst h; simp [go_sem]
theorem cells2 (w : World) (a b : Nat) (T : TypeId) (j n : Nat) (h : [a, b][j]? = some n) :
    (w.alloc (.cells #[.int .u64 (a : Int), .int .u64 (b : Int)] T)).cell? ((⟨w.heap.size, 0, none⟩ : Addr).add j) = some (.int .u64 (n : Int)) := by
  match j, h with
  | 0, h => simp at h; subst h; simp [go_sem]
  | 1, h => simp at h; subst h; simp [go_sem]

set_option maxHeartbeats 1600000 in
set_option maxRecDepth 100000 in
theorem encode_ok (i k f t z r : Nat) (w : World) (h : Right i k f t z r) :
    Calls Try.prog 30 #[tk i k f t z r] w fun e w' => e = .returned (.tuple #[S (encL i k f t z r), .int .i64 0]) ∧ Below w.heap.size w w' := by
  have HC := hide (chk_right h)
  obtain ⟨i1, i2, k1, k2, f2, t2, ft, z1, z2, r2, r3, r0⟩ := h
  clear r3 r0
  go_enter Try.func30, Try.ntmps30
  go_wp2_with fail
  refine (check_any _ _ _ _ _ _ _).mono ?_
  rintro e w1 ⟨rfl, hb⟩
  rw [HC.out]
  have hs6 := ((six_new w (.int .i64 i) (.int .i64 k) (.int .i64 f) (.int .i64 t) (.int .i64 z) (.int .i64 r) 23).kp (Kp.ofBelow (S := fun _ => False) hb) (fun h => h))
  obtain ⟨c0, c1, c2, c3, c4, c5, y⟩ := hs6
  go_wp2_with fail
  refine (put_any 2 3 6 3 ⟨w1.heap.size, 0, none⟩ [i, f, t] _ (by omega) rfl (by omega) rfl (fun j n h => cells3 w1 i f t 58 j n h) (by intro n hn; simp at hn; omega)).mono ?_
  rintro e w2 ⟨rfl, hb2⟩
  obtain ⟨d0, d1, d2, d3, d4, d5, y2⟩ := ((Six.mk c0 c1 c2 c3 c4 c5 y).alloc _).kp (Kp.ofBelow (S := fun _ => False) hb2) (fun h => h)
  generalize hA : (⟨(putL 2 [i, f, t]).toArray⟩ : ByteArray) = A
  have hAs : A.size ≤ 6 := by rw [← hA]; simp [ByteArray.size, putL, digs]
  have HA := hide hA
  clear hA
  go_wp2_with fail
  refine (put_any 1 2 2 2 ⟨w2.heap.size, 0, none⟩ [k * 16 + z, r] _ (by omega) rfl (by omega) rfl (fun j n h => by have := cells2 w2 (k * 16 + z) r 58 j n h; simpa using this) (by intro n hn; simp at hn; omega)).mono ?_
  rintro e w3 ⟨rfl, hb3⟩
  generalize hA2 : (⟨(putL 1 [k * 16 + z, r]).toArray⟩ : ByteArray) = A2
  have hAs2 : A2.size ≤ 2 := by rw [← hA2]; simp [ByteArray.size, putL, digs]
  have HA2 := hide hA2
  clear hA2
  go_wp2_with fail
  go_ret2
  refine ⟨?_, ?_⟩
  · rw [← HA.out, ← HA2.out]
    show Ending.returned (.tuple #[.string (⟨(putL 2 [i, f, t]).toArray⟩ ++ ⟨(putL 1 [k * 16 + z, r]).toArray⟩), .int .i64 0]) = _
    rw [app_mk]
    rfl
  · exact ((((Below.refl _ _).alloc (Nat.le_refl _) _).trans (hb.mono (by simp))).alloc (by have := hb.size; simp at this; omega) _ |>.trans (hb2.mono (by have := hb.size; simp at this; simp; omega))).alloc (by have := hb.size; have := hb2.size; simp at *; omega) _ |>.trans (hb3.mono (by have := hb.size; have := hb2.size; simp at *; omega))

/-- what Encode says: bytes, and an error -/
def encV (i k f t z r : Int) : List UInt8 × Int :=
  if chk i k f t z r = 0 then (encL i.toNat k.toNat f.toNat t.toNat z.toNat r.toNat, 0) else ([], chk i k f t z r)

theorem encode_any (i k f t z r : Int) (w : World) :
    Calls Try.prog 30 #[tk i k f t z r] w fun e w' => e = .returned (.tuple #[S (encV i k f t z r).1, .int .i64 (encV i k f t z r).2]) ∧ Below w.heap.size w w' := by
  by_cases h : chk i k f t z r = 0
  · have e : encV i k f t z r = (encL i.toNat k.toNat f.toNat t.toNat z.toNat r.toNat, 0) := by unfold encV; rw [if_pos h]
    rw [e]
    obtain ⟨i', k', f', t', z', r', rfl, rfl, rfl, rfl, rfl, rfl, hr⟩ := right_of _ _ _ _ _ _ h
    simp only [Int.toNat_natCast]
    exact encode_ok i' k' f' t' z' r' w hr
  · have e : encV i k f t z r = ([], chk i k f t z r) := by unfold encV; rw [if_neg h]
    rw [e]
    exact encode_bad i k f t z r w h

theorem encL_eq (i k f t z r : Nat) : encL i k f t z r = [UInt8.ofNat (i / 256), UInt8.ofNat i, UInt8.ofNat (f / 256), UInt8.ofNat f, UInt8.ofNat (t / 256), UInt8.ofNat t, UInt8.ofNat (k * 16 + z), UInt8.ofNat r] := by
  simp [encL, putL, digs, List.range_succ]

theorem encL_len (i k f t z r : Nat) : (encL i k f t z r).length = 8 := by rw [encL_eq]; rfl

theorem num_two (n : Nat) (h : n < 65536) : num [UInt8.ofNat (n / 256), UInt8.ofNat n] = n := by
  simp only [num, List.foldl_cons, List.foldl_nil, UInt8.toNat_ofNat']; omega
theorem num_one (n : Nat) (h : n < 256) : num [UInt8.ofNat n] = n := by
  simp only [num, List.foldl_cons, List.foldl_nil, UInt8.toNat_ofNat']; omega

theorem dec8 (b0 b1 b2 b3 b4 b5 b6 b7 : UInt8) : decV [b0, b1, b2, b3, b4, b5, b6, b7] =
    if chk (num [b0, b1]) ((num [b6] : Int) / 16) (num [b2, b3]) (num [b4, b5]) ((num [b6] : Int) % 16) (num [b7]) = 0 then
      (tk (num [b0, b1]) ((num [b6] : Int) / 16) (num [b2, b3]) (num [b4, b5]) ((num [b6] : Int) % 16) (num [b7]), 0)
    else (tk 0 0 0 0 0 0, chk (num [b0, b1]) ((num [b6] : Int) / 16) (num [b2, b3]) (num [b4, b5]) ((num [b6] : Int) % 16) (num [b7])) := rfl

theorem dec_enc {i k f t z r : Nat} (h : Right i k f t z r) : decV (encL i k f t z r) = (tk i k f t z r, 0) := by
  have hc := chk_right h
  obtain ⟨i1, i2, k1, k2, f2, t2, ft, z1, z2, r2, r3, r0⟩ := h
  rw [encL_eq, dec8]
  rw [num_two i (by omega), num_two f (by omega), num_two t (by omega), num_one _ (by omega : k * 16 + z < 256), num_one r (by omega)]
  have e1 : (((k * 16 + z : Nat) : Int) / 16) = (k : Int) := by omega
  have e2 : (((k * 16 + z : Nat) : Int) % 16) = (z : Int) := by omega
  rw [e1, e2, if_pos hc]

theorem byte_ext {a b : UInt8} (h : a.toNat = b.toNat) : a = b := UInt8.toNat_inj.1 h

theorem enc_dec (b0 b1 b2 b3 b4 b5 b6 b7 : UInt8) :
    encL (num [b0, b1]) (num [b6] / 16) (num [b2, b3]) (num [b4, b5]) (num [b6] % 16) (num [b7]) = [b0, b1, b2, b3, b4, b5, b6, b7] := by
  rw [encL_eq]
  have h0 := b0.toNat_lt; have h1 := b1.toNat_lt; have h2 := b2.toNat_lt; have h3 := b3.toNat_lt
  have h4 := b4.toNat_lt; have h5 := b5.toNat_lt; have h6 := b6.toNat_lt; have h7 := b7.toNat_lt
  have g : ∀ a b : UInt8, num [a, b] = a.toNat * 256 + b.toNat := fun a b => by simp [num]
  have g1 : ∀ a : UInt8, num [a] = a.toNat := fun a => by simp [num]
  simp only [g, g1, List.cons.injEq, and_true]
  refine ⟨?_, ?_, ?_, ?_, ?_, ?_, ?_, ?_⟩
  all_goals apply byte_ext; simp only [UInt8.toNat_ofNat']; omega

theorem encL_inj {i k f t z r i' k' f' t' z' r' : Nat} (h : Right i k f t z r) (h' : Right i' k' f' t' z' r') (e : encL i k f t z r = encL i' k' f' t' z' r') :
    i = i' ∧ k = k' ∧ f = f' ∧ t = t' ∧ z = z' ∧ r = r' := by
  have a := dec_enc h
  rw [e, dec_enc h'] at a
  simp only [tk, Prod.mk.injEq, Value.agg.injEq, Array.mk.injEq, List.cons.injEq, Value.int.injEq, true_and, and_true] at a
  omega
end Go.Proofs.Ytcakfmpckbmdeab
