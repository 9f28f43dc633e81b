/-
  Texts joined: C4, T4, T5, T6, T7, C5, C6, RB4, RB5, O1, O3, V1, V2, V3, V4, V5, N1, N3, N4, N5, N6, N7, N8, Q1, N9, N2, N11, RB6, J1, J2, J3, J4, H4, V6, V11, Z1, Z2, Z3, Z4, Z5, Z6, Z7, Z8.
-/
import Derived.Defers
import Derived.Recover
import Derived.Lib.ItoaNum
import Derived.Lib.QuietBelow
import Derived.BigQuiet
import Derived.Carry
import Derived.Deep.Slices
import Derived.Deep.CutRange
import Derived.Deep.CutBlock
import Derived.Maps.AppendAt
import Derived.Laws.OwnMore
import Derived.Laws.AppendOwnNone
import Derived.WalkKit
import Derived.Test.YtdcojigjcebcpaaGreatDoorPk1
set_option maxHeartbeats 12800000
set_option maxRecDepth 100000
namespace Go.Proofs.YtdcojigjcebcpaaGreatDoor
section
open Go.RowKit
def dg (N : Nat) : Nat → List Nat
 | 0 => []
 | m + 1 => (N / 31 ^ m % 31) :: dg N m
theorem dg_len (N m : Nat) : (dg N m).length = m := by induction m with | zero => rfl | succ m ih => simp [dg, ih]
theorem dg_lt (N m : Nat) : ∀ v ∈ dg N m, v < 31 := by
 induction m with
 | zero => simp [dg]
 | succ m ih => intro v hv; simp only [dg, List.mem_cons] at hv; rcases hv with rfl | hv; exact Nat.mod_lt _ (by omega); exact ih v hv
theorem dg_set (N q m : Nat) : (iv (List.replicate (q + 1) 0 ++ dg N m)).set q (Value.int .i64 ((N / 31 ^ m % 31 : Nat) : Int)) = iv (List.replicate q 0 ++ dg N (m + 1)) := by
 have e : iv (List.replicate (q + 1) 0 ++ dg N m) = iv (List.replicate q 0) ++ (Value.int .i64 ((0 : Nat) : Int) :: iv (dg N m)) := by
  simp [iv, List.replicate_succ']
 rw [e, List.set_append_right _ _ (by simp [iv])]
 simp [iv, dg]
theorem digits_any (N : Nat) (w : World) (hN : N < 18446744073709551616) :
  Calls Tryz.prog 75 #[.int .u64 (N : Int)] w fun e w' => e = .returned (.slice (some ⟨w.heap.size, 0, none⟩) 13 13) ∧ w'.ownsRow w.heap.size 3 1 (.slice (some ⟨w.heap.size, 0, none⟩) 13 13) 13 (iv (dg N 13)) ∧ Below w.heap.size w w' := by
 obtain ⟨i0, hi, hz0, hz1, hz2⟩ := info_parts info3c
 have hmk : ∀ u : World, (Instr.makeSlice 24 (.int .i64 13) (.int .i64 13)).run Tryz.prog u = .ok (.slice (some ⟨u.heap.size, 0, none⟩) 13 13) (u.alloc (.cells (madeCells #[.int .i64 0] 13) 3)) := fun u => by
  have h := run_make (P := Tryz.prog) u 24 3 i0 (.int .i64 0) Tryz.underlying24 hi hz0 .i64 .i64 13 13 (by omega) (Int.le_refl _) (by rw [hz2]; omega) (by omega)
  simpa [hz1, Value.cells] using h
 have hown0 : (w.alloc (.cells (madeCells #[.int .i64 0] 13) 3)).ownsRow w.heap.size 3 1 (.slice (some ⟨w.heap.size, 0, none⟩) 13 13) 13 (iv (List.replicate 13 0 ++ dg N 0)) := by
  have h := World.ownsRow_lit (base := w.heap.size) (e := 3) (size := 1) w (madeCells #[.int .i64 0] 13) 13 (Nat.le_refl _) (by unfold maxLen; omega) (by rw [size_madeCells])
  rw [toList_madeCells_one] at h
  exact h
 generalize hM : madeCells #[.int .i64 0] 13 = M at hmk hown0
 clear hM
 go_enter Tryz.func75, Tryz.ntmps75
 go_wp2_with fail
 go_loopw [0, 4] (fun n i wr => ∃ q m : Nat, q + m = 13 ∧ i = .int .i64 ((q : Int) - 1) ∧ n = .int .u64 ((N / 31 ^ m : Nat) : Int) ∧ wr.ownsRow w.heap.size 3 1 (.slice (some ⟨w.heap.size, 0, none⟩) 13 13) 13 (iv (List.replicate q 0 ++ dg N m)) ∧ Below w.heap.size w wr)
  (fun _ i _ => (intOf i + 1).toNat)
 case atStart => exact ⟨13, 0, rfl, rfl, by simp, hown0, (Below.refl _ _).alloc (Nat.le_refl _) _⟩
 case round =>
  obtain ⟨q, m, hqm, rfl, rfl, hown, hb⟩ := hrel
  cases q with
  | zero =>
   go_wp2_with fail
   go_ret
   refine ⟨rfl, ?_, hb⟩
   have hm : m = 13 := by omega
   subst hm
   simpa using hown
  | succ q =>
   have hc := hown.cellAt q (by omega)
   have hz := hown.frozenAt q
   have hlt : N / 31 ^ m < 18446744073709551616 := Nat.lt_of_le_of_lt (Nat.div_le_self _ _) hN
   have hd : N / 31 ^ (m + 1) = N / 31 ^ m / 31 := by rw [Nat.pow_succ, Nat.div_div_eq_div_mul]
   have hset := dg_set N q m
   generalize hx : N / 31 ^ m = x at *
   obtain ⟨u, hu⟩ : ∃ u, (iv (List.replicate (q + 1) 0 ++ dg N m))[q]? = some u := ⟨_, List.getElem?_eq_getElem (by simp [iv, dg_len]; omega)⟩
   rw [hu] at hc
   have HX := zA hx
   have HS := zA hset
   have HD := zA hd
   have HU := zA hu
   have HQ := zA hqm
   have hq12 : q ≤ 12 := by omega
   clear hx hset hd hu hqm
   go_wp2_with fail
   refine ⟨⟨q, m + 1, by have := HQ.out; omega, rfl, by rw [HD.out]; go_num, ?_, hb.setCell (Nat.le_refl _) _⟩, by simp [intOf]⟩
   have h := (hown.stored q (.int .i64 ((x % 31 : Nat) : Int))).1
   rw [HS.out] at h
   simpa using h
structure Six (w : World) (b : Nat) (x0 x1 x2 x3 x4 x5 : Value) : Prop where
 c0 : w.cell? ⟨b, 0, none⟩ = some x0
 c1 : w.cell? ⟨b, 1, none⟩ = some x1
 c2 : w.cell? ⟨b, 2, none⟩ = some x2
 c3 : w.cell? ⟨b, 3, none⟩ = some x3
 c4 : w.cell? ⟨b, 4, none⟩ = some x4
 c5 : w.cell? ⟨b, 5, none⟩ = some x5
 z : ∀ o, w.frozen? ⟨b, o, none⟩ = false
theorem Six.kp {P : Nat → Prop} {w w' : World} {b : Nat} {x0 x1 x2 x3 x4 x5 : Value} (h : Six w b x0 x1 x2 x3 x4 x5) (hk : Kp P w w') (hb : ¬ P b) : Six w' b x0 x1 x2 x3 x4 x5 := by
 have hl : b < w.heap.size := World.block_lt_of_cell? w ⟨b, 0, none⟩ h.c0
 have e : ∀ o, w'.cell? ⟨b, o, none⟩ = w.cell? ⟨b, o, none⟩ := fun o => hk.cell (p := ⟨b, o, none⟩) hl hb
 exact ⟨by rw [e]; exact h.c0, by rw [e]; exact h.c1, by rw [e]; exact h.c2, by rw [e]; exact h.c3, by rw [e]; exact h.c4, by rw [e]; exact h.c5,
  fun o => by rw [hk.frozen (p := ⟨b, o, none⟩) hl hb]; exact h.z o⟩
theorem Six.lt {w : World} {b : Nat} {x0 x1 x2 x3 x4 x5 : Value} (h : Six w b x0 x1 x2 x3 x4 x5) : b < w.heap.size := World.block_lt_of_cell? w ⟨b, 0, none⟩ h.c0
theorem six_new (w : World) (x0 x1 x2 x3 x4 x5 : Value) (T : TypeId) : Six (w.alloc (.cells #[x0, x1, x2, x3, x4, x5] T)) w.heap.size x0 x1 x2 x3 x4 x5 :=
 ⟨by simp [go_sem], by simp [go_sem], by simp [go_sem], by simp [go_sem], by simp [go_sem], by simp [go_sem], fun o => by simp [go_sem]⟩
theorem Six.alloc {w : World} {b : Nat} {x0 x1 x2 x3 x4 x5 : Value} (h : Six w b x0 x1 x2 x3 x4 x5) (o : Obj) : Six (w.alloc o) b x0 x1 x2 x3 x4 x5 :=
 h.kp (P := fun _ => False) ((Kp.refl _ _).alloc _) (fun h => h)
def encL (i k f t z r : Nat) : List UInt8 := putL 2 [i, f, t] ++ putL 1 [k * 16 + z, r]
structure Right (i k f t z r : Nat) : Prop where
 i1 : 1 ≤ i
 i2 : i ≤ 9999
 k1 : 1 ≤ k
 k2 : k ≤ 3
 f2 : f ≤ 9999
 t2 : t ≤ 9999
 ft : f ≤ t
 z1 : 1 ≤ z
 z2 : z ≤ 15
 r2 : r ≤ 9
 r3 : k = 3 → 2 ≤ r
 r0 : k ≠ 3 → r = 0
theorem right_of (i k f t z r : Int) (h : chk i k f t z r = 0) : ∃ i' k' f' t' z' r' : Nat, i = i' ∧ k = k' ∧ f = f' ∧ t = t' ∧ z = z' ∧ r = r' ∧ Right i' k' f' t' z' r' := by
 unfold chk at h
 have a1 : inR i f t z = true := by cases e : inR i f t z <;> simp_all
 rw [if_neg (by simp [a1])] at h
 have a2 : wi k 1 3 = true := by cases e : wi k 1 3 <;> simp_all
 rw [if_neg (by simp [a2])] at h
 have a3 : ¬ t < f := by intro e; simp [e] at h
 rw [if_neg a3] at h
 have a4 : yO k r = true := by cases e : yO k r <;> simp_all
 simp only [inR, Bool.and_eq_true, yH] at a1
 rw [yH] at a2
 have a5 : (k = 3 → 2 ≤ r ∧ r ≤ 9) ∧ (k ≠ 3 → r = 0) := by
  unfold yO at a4
  by_cases hk : k = 3
  ·rw [if_pos hk, yH] at a4; exact ⟨fun _ => a4, fun h => absurd hk h⟩
  ·rw [if_neg hk] at a4; exact ⟨fun h => absurd h hk, fun _ => by simpa using a4⟩
 refine ⟨i.toNat, k.toNat, f.toNat, t.toNat, z.toNat, r.toNat, by omega, by omega, by omega, by omega, by omega, ?_, ?_⟩
 ·have := a5.1; have := a5.2; omega
 ·have := a5.1; have := a5.2
  exact ⟨by omega, by omega, by omega, by omega, by omega, by omega, by omega, by omega, by omega, by omega, by omega, by omega⟩
theorem chk_rightN {i k f t z r : Nat} (h : Right i k f t z r) : chk (i : Int) k f t z r = 0 := by
 obtain ⟨i1, i2, k1, k2, f2, t2, ft, z1, z2, r2, r3, r0⟩ := h
 have a1 : inR (i : Int) f t z = true := by simp only [inR, Bool.and_eq_true, yH]; omega
 have a2 : wi (k : Int) 1 3 = true := by rw [yH]; omega
 have a4 : yO (k : Int) r = true := by
  unfold yO
  by_cases hk : (k : Int) = 3
  ·rw [if_pos hk, yH]; omega
  ·rw [if_neg hk]; simp; omega
 simp [chk, a1, a2, a4]
 omega
theorem encode_bad (i k f t z r : Int) (w : World) (h : chk i k f t z r ≠ 0) :
  Calls Tryz.prog 74 #[tk i k f t z r] w fun e w' => e = .returned (.tuple #[S [], .int .i64 (chk i k f t z r)]) ∧ Below w.heap.size w w' := by
 have h' : (chk i k f t z r != 0) = true := by simpa using h
 have H := zA h
 clear h
 go_enter Tryz.func74, Tryz.ntmps74
 go_wp2_with fail
 refine (check_any _ _ _ _ _ _ _).mono ?_
 rintro e w1 ⟨rfl, hb⟩
 go_wp2_with fail
 go_ret2
 exact ⟨rfl, ((Below.refl _ _).alloc (Nat.le_refl _) _).trans (hb.mono (by simp))⟩
theorem app_mk (a b : List UInt8) : (⟨a.toArray⟩ : ByteArray) ++ ⟨b.toArray⟩ = ⟨(a ++ b).toArray⟩ := by
 apply ByteArray.ext; simp
theorem cells3 (w : World) (a b c : Nat) (T : TypeId) (j n : Nat) (h : [a, b, c][j]? = some n) :
  (w.alloc (.cells #[.int .u64 (a : Int), .int .u64 (b : Int), .int .u64 (c : Int)] T)).cell? ((⟨w.heap.size, 0, none⟩ : Addr).add j) = some (.int .u64 (n : Int)) := by
 match j, h with
 | 0, h => simp at h; subst h; simp [go_sem]
 | 1, h => simp at h; subst h; simp [go_sem]
 | 2, h => simp at h; subst h; simp [go_sem]
theorem cells2 (w : World) (a b : Nat) (T : TypeId) (j n : Nat) (h : [a, b][j]? = some n) :
  (w.alloc (.cells #[.int .u64 (a : Int), .int .u64 (b : Int)] T)).cell? ((⟨w.heap.size, 0, none⟩ : Addr).add j) = some (.int .u64 (n : Int)) := by
 match j, h with
 | 0, h => simp at h; subst h; simp [go_sem]
 | 1, h => simp at h; subst h; simp [go_sem]
theorem encode_ok (i k f t z r : Nat) (w : World) (h : Right i k f t z r) :
  Calls Tryz.prog 74 #[tk i k f t z r] w fun e w' => e = .returned (.tuple #[S (encL i k f t z r), .int .i64 0]) ∧ Below w.heap.size w w' := by
 have HC := zA (chk_rightN h)
 obtain ⟨i1, i2, k1, k2, f2, t2, ft, z1, z2, r2, r3, r0⟩ := h
 clear r3 r0
 go_enter Tryz.func74, Tryz.ntmps74
 go_wp2_with fail
 refine (check_any _ _ _ _ _ _ _).mono ?_
 rintro e w1 ⟨rfl, hb⟩
 rw [HC.out]
 have hs6 := ((six_new w (.int .i64 i) (.int .i64 k) (.int .i64 f) (.int .i64 t) (.int .i64 z) (.int .i64 r) 51).kp (Kp.ofBelow (S := fun _ => False) hb) (fun h => h))
 obtain ⟨c0, c1, c2, c3, c4, c5, y⟩ := hs6
 go_wp2_with fail
 refine (put_any 2 3 6 3 ⟨w1.heap.size, 0, none⟩ [i, f, t] _ (by omega) rfl (by omega) rfl (fun j n h => cells3 w1 i f t 123 j n h) (by intro n hn; simp at hn; omega)).mono ?_
 rintro e w2 ⟨rfl, hb2⟩
 obtain ⟨d0, d1, d2, d3, d4, d5, y2⟩ := ((Six.mk c0 c1 c2 c3 c4 c5 y).alloc _).kp (Kp.ofBelow (S := fun _ => False) hb2) (fun h => h)
 generalize hA : (⟨(putL 2 [i, f, t]).toArray⟩ : ByteArray) = A
 have hAs : A.size ≤ 6 := by rw [← hA]; simp [ByteArray.size, putL, digs]
 have HA := zA hA
 clear hA
 go_wp2_with fail
 refine (put_any 1 2 2 2 ⟨w2.heap.size, 0, none⟩ [k * 16 + z, r] _ (by omega) rfl (by omega) rfl (fun j n h => by have := cells2 w2 (k * 16 + z) r 123 j n h; simpa using this) (by intro n hn; simp at hn; omega)).mono ?_
 rintro e w3 ⟨rfl, hb3⟩
 generalize hA2 : (⟨(putL 1 [k * 16 + z, r]).toArray⟩ : ByteArray) = A2
 have hAs2 : A2.size ≤ 2 := by rw [← hA2]; simp [ByteArray.size, putL, digs]
 have HA2 := zA hA2
 clear hA2
 go_wp2_with fail
 go_ret2
 refine ⟨?_, ?_⟩
 ·rw [← HA.out, ← HA2.out]
  show Ending.returned (.tuple #[.string (⟨(putL 2 [i, f, t]).toArray⟩ ++ ⟨(putL 1 [k * 16 + z, r]).toArray⟩), .int .i64 0]) = _
  rw [app_mk]
  rfl
 ·exact ((((Below.refl _ _).alloc (Nat.le_refl _) _).trans (hb.mono (by simp))).alloc (by have := hb.size; simp at this; omega) _ |>.trans (hb2.mono (by have := hb.size; simp at this; simp; omega))).alloc (by have := hb.size; have := hb2.size; simp at *; omega) _ |>.trans (hb3.mono (by have := hb.size; have := hb2.size; simp at *; omega))
def encV (i k f t z r : Int) : List UInt8 × Int :=
 if chk i k f t z r = 0 then (encL i.toNat k.toNat f.toNat t.toNat z.toNat r.toNat, 0) else ([], chk i k f t z r)
theorem encode_any (i k f t z r : Int) (w : World) :
  Calls Tryz.prog 74 #[tk i k f t z r] w fun e w' => e = .returned (.tuple #[S (encV i k f t z r).1, .int .i64 (encV i k f t z r).2]) ∧ Below w.heap.size w w' := by
 by_cases h : chk i k f t z r = 0
 ·have e : encV i k f t z r = (encL i.toNat k.toNat f.toNat t.toNat z.toNat r.toNat, 0) := by unfold encV; rw [if_pos h]
  rw [e]
  obtain ⟨i', k', f', t', z', r', rfl, rfl, rfl, rfl, rfl, rfl, hr⟩ := right_of _ _ _ _ _ _ h
  simp only [Int.toNat_natCast]
  exact encode_ok i' k' f' t' z' r' w hr
 ·have e : encV i k f t z r = ([], chk i k f t z r) := by unfold encV; rw [if_neg h]
  rw [e]
  exact encode_bad i k f t z r w h
theorem encL_eq (i k f t z r : Nat) : encL i k f t z r = [UInt8.ofNat (i / 256), UInt8.ofNat i, UInt8.ofNat (f / 256), UInt8.ofNat f, UInt8.ofNat (t / 256), UInt8.ofNat t, UInt8.ofNat (k * 16 + z), UInt8.ofNat r] := by
 simp [encL, putL, digs, List.range_succ]
theorem encL_len (i k f t z r : Nat) : (encL i k f t z r).length = 8 := by rw [encL_eq]; rfl
theorem mk_lt (l : List Nat) : mk l < 31 := Nat.mod_lt _ (by omega)
theorem iv_get {l : List Nat} {j v : Nat} (h : l[j]? = some v) : (iv l)[j]? = some (.int .i64 (v : Int)) := by simp [iv, h]
def codeD (N : Nat) : List Nat := dg N 13 ++ [mk (dg N 13)]
def codeL (N : Nat) : List UInt8 := (codeD N).map sgn
theorem codeD_len (N : Nat) : (codeD N).length = 14 := by simp [codeD, dg_len]
theorem codeL_len (N : Nat) : (codeL N).length = 14 := by simp [codeL, codeD_len]
theorem codeD_lt (N : Nat) : ∀ v ∈ codeD N, v < 31 := by
 intro v hv
 simp only [codeD, List.mem_append, List.mem_singleton] at hv
 rcases hv with hv | rfl
 ·exact dg_lt _ _ v hv
 ·exact mk_lt _
def zZ (i k f t z r : Int) : List UInt8 × Int :=
 if chk i k f t z r = 0 then (codeL (num (encV i k f t z r).1), 0) else ([], chk i k f t z r)
theorem num_lt8 (l : List UInt8) (h : l.length ≤ 8) : num l < 18446744073709551616 := by
 have h1 := num_lt ⟨l.toArray⟩ l.length (by simp [ByteArray.size])
 simp at h1
 have h2 : 256 ^ l.length ≤ 256 ^ 8 := Nat.pow_le_pow_right (by omega) h
 have h3 : (256 : Nat) ^ 8 = 18446744073709551616 := by decide
 omega
theorem print_any (i k f t z r : Int) (w : World) :
  Calls Tryz.prog 47 #[tk i k f t z r] w fun e w' => e = .returned (.tuple #[S (zZ i k f t z r).1, .int .i64 (zZ i k f t z r).2]) ∧ Below w.heap.size w w' := by
 by_cases h : chk i k f t z r = 0
 ·obtain ⟨i0, hi, hz0, hz1, hz2⟩ := info_parts info3c
  have hE : ∃ u, encV i k f t z r = (u, 0) ∧ u.length = 8 := by
   unfold encV; rw [if_pos h]; exact ⟨_, rfl, encL_len _ _ _ _ _ _⟩
  obtain ⟨u, hE, hu⟩ := hE
  have hP : zZ i k f t z r = (codeL (num u), 0) := by unfold zZ; rw [if_pos h, hE]
  rw [hP]
  have HE := zA hE
  have HU := zA hu
  have hN := num_lt8 u (by omega)
  generalize hM : num u = N at *
  have HM := zA hM
  have hm31 := mk_lt (dg N 13)
  clear h hE hP hu hM
  go_enter Tryz.func47, Tryz.ntmps47
  go_wp2_with fail
  refine (encode_any _ _ _ _ _ _ _).mono ?_
  rintro e w1 ⟨rfl, hb1⟩
  rw [HE.out]
  have hB1 : Below w.heap.size w w1 := ((Below.refl _ _).alloc (Nat.le_refl _) _).trans (hb1.mono (by simp))
  clear hb1
  go_wp2_with fail
  refine (number_l u _ (by have := HU.out; omega)).mono ?_
  rintro e w2 ⟨rfl, rfl⟩
  rw [HM.out]
  go_wp2_with fail
  refine (digits_any N _ hN).mono ?_
  rintro e w3 ⟨rfl, hown, hb3⟩
  have hB3 := hB1.trans (hb3.mono hB1.size)
  have hs3 := hb3.size
  go_wp2_with fail
  refine (check37 _ _ _ (dg N 13) _ (dg_len _ _) (by omega) (dg_lt _ _) (fun j v h => hown.cells rfl j _ (iv_get h))).mono ?_
  rintro e w4 ⟨rfl, rfl⟩
  go_wp2_with (at_builtin; refine wpList_append_own _ rfl (.tmp 18) (.tmp 21) 24 rfl w2.heap.size 3 i0 (.int .i64 0) 1 8 Tryz.underlying24 hi hz0 hz1 hz2 rfl (by decide) _ _ _ rfl (hown.alloc _) ⟨w4.heap.size, 0, none⟩ 1 1 [.int .i64 (mk (dg N 13) : Int)] rfl rfl (cell_one_new _ _ _) (by intro u hu; simp at hu; subst hu; rfl) (by unfold maxLen; omega) (by omega) (by simp; omega) ?_; intro v' w5 hown5 hgrow5 hnil5)
  rw [show iv (dg N 13) ++ [Value.int .i64 (mk (dg N 13) : Int)] = iv (codeD N) by simp [iv, codeD]] at hown5
  have hB5 : Below w.heap.size w w5 := (hB3.alloc hB3.size _).grown hgrow5 (by have := hB3.size; simp; omega) (fun q hq => by cases hq; exact hB1.size)
  clear hgrow5 hnil5
  obtain ⟨g, cap, rfl⟩ : ∃ g cap, v' = .slice (some ⟨g, 0, none⟩) 14 cap := by
   rcases hown5.2 with ⟨_, h⟩ | ⟨g, cap, cur, h, _⟩
   ·omega
   ·exact ⟨g, cap, h⟩
  refine (put36 _ _ _ (codeD N) _ (codeD_len _) (by omega) (codeD_lt _) (fun j v h => hown5.cells rfl j _ (iv_get h))).mono ?_
  rintro e w6 ⟨rfl, hb6⟩
  have hB6 := hB5.trans (hb6.mono hB5.size)
  simp only [S]
  go_wp2_with fail
  go_ret2
  exact ⟨rfl, hB6⟩
 ·have hP : zZ i k f t z r = ([], chk i k f t z r) := by unfold zZ; rw [if_neg h]
  have hE : encV i k f t z r = ([], chk i k f t z r) := by unfold encV; rw [if_neg h]
  have h' : (chk i k f t z r != 0) = true := by simpa using h
  rw [hP]
  have HE := zA hE
  clear h hP hE
  go_enter Tryz.func47, Tryz.ntmps47
  go_wp2_with fail
  refine (encode_any _ _ _ _ _ _ _).mono ?_
  rintro e w1 ⟨rfl, hb⟩
  rw [HE.out]
  go_wp2_with fail
  go_ret2
  exact ⟨rfl, ((Below.refl _ _).alloc (Nat.le_refl _) _).trans (hb.mono (by simp))⟩
theorem zU {n : Int} (h : n ≤ 9999) : (itD n).length ≤ 20 := by
 unfold itD
 rw [Lib.decDigits_length]
 have hn : n.toNat ≤ 9999 := by omega
 generalize n.toNat = u at hn
 have a : ∀ u : Nat, u < 10 → Lib.nDigits u = 1 := fun u h => by rw [Lib.nDigits, dif_pos h]
 have s : ∀ u : Nat, ¬ u < 10 → Lib.nDigits u = Lib.nDigits (u / 10) + 1 := fun u h => by rw [Lib.nDigits, dif_neg h]
 by_cases h1 : u < 10
 ·rw [a u h1]; omega
 ·rw [s u h1]
  by_cases h2 : u / 10 < 10
  ·rw [a _ h2]; omega
  ·rw [s _ h2]
   by_cases h3 : u / 10 / 10 < 10
   ·rw [a _ h3]; omega
   ·rw [s _ h3, a _ (by omega)]; omega
theorem itD_small {n : Int} (h0 : 0 ≤ n) (h : n < 10) : itD n = [UInt8.ofNat (48 + n.toNat)] := by
 unfold itD
 rw [Lib.decDigits, dif_pos (by omega)]
theorem itD_step {n : Int} (h : 10 ≤ n) : itD n = itD (n / 10) ++ itD (n % 10) := by
 have e1 : (n / 10).toNat = n.toNat / 10 := by omega
 have e2 : (n % 10).toNat = n.toNat % 10 := by omega
 rw [itD_small (n := n % 10) (by omega) (by omega), e2]
 show Lib.decDigits n.toNat = Lib.decDigits (n / 10).toNat ++ _
 rw [e1, Lib.decDigits, dif_neg (by omega)]
def rtapB (p : TP) (v : Int) : List UInt8 := [32] ++ ((if v = 1 then [114] else [99]) ++ (itD p.g ++ ([64] ++ itD p.m)))
def yC (X : List (TP × Int)) (id : Int) : List UInt8 := X.flatMap fun x => if x.1.a = id then rtapB x.1 x.2 else []
def headB (X : List (TP × Int)) (x : TK) : List UInt8 := (zZ x.i x.k x.f x.t x.z x.r).1 ++ ([32] ++ (itD (yA X x.i).1 ++ ([47] ++ itD (allR x.k x.r - (yA X x.i).1))))
def yK (X : List (TP × Int)) (x : TK) : List UInt8 := headB X x ++ yC X x.i
theorem tapsB_snoc (X : List (TP × Int)) (x : TP × Int) (id : Int) : yC (X ++ [x]) id = yC X id ++ (if x.1.a = id then rtapB x.1 x.2 else []) := by
 simp [yC, List.flatMap_append]
theorem rtapB_len {p : TP} {v : Int} (hg : p.g ≤ 9999) (hm : p.m ≤ 9999) : (rtapB p v).length ≤ 43 := by
 have h1 := zU hg
 have h2 := zU hm
 unfold rtapB
 split <;> simp only [List.length_append, List.length_cons, List.length_nil] <;> omega
theorem tapsB_len {id : Int} : ∀ (X : List (TP × Int)), (∀ x ∈ X, x.1.g ≤ 9999 ∧ x.1.m ≤ 9999) → (yC X id).length ≤ X.length * 43
 | [], _ => by simp [yC]
 | x :: X, h => by
  have ih := tapsB_len (id := id) X (fun y hy => h y (List.mem_cons_of_mem _ hy))
  have hx := h x (List.mem_cons_self ..)
  have h1 := rtapB_len (v := x.2) hx.1 hx.2
  have e : yC (x :: X) id = (if x.1.a = id then rtapB x.1 x.2 else []) ++ yC X id := by simp [yC]
  rw [e]
  split <;> simp only [List.length_append, List.length_cons, List.length_nil] <;> omega
theorem printV_len (i k f t z r : Int) : (zZ i k f t z r).1.length ≤ 14 := by
 unfold zZ
 split
 ·simp [codeL_len]
 ·simp
theorem sign_any (v : Int) (w : World) :
  Calls Tryz.prog 51 #[.int .i64 v] w fun e w' => e = .returned (.string ⟨(if v = 1 then [114] else [99] : List UInt8).toArray⟩) ∧ w' = w := by
 by_cases h : v = 1
 ·rw [if_pos h]
  go_enter Tryz.func51, Tryz.ntmps51
  go_wp2
  go_ret
  exact ⟨rfl, rfl⟩
 ·rw [if_neg h]
  go_enter Tryz.func51, Tryz.ntmps51
  go_wp2
  go_ret
  exact ⟨rfl, rfl⟩
theorem leftV_of4 {T : List TK} {P : List TP} {V : List Int} {id c : Int} (h : zX T P V id = (c, 0)) : leftV T P V id = (allR (tikOf T id).k (tikOf T id).r - c, 0) := by
 unfold leftV
 rw [h, if_pos rfl]
theorem line_facts {T : List TK} {P : List TP} {V : List Int} (h : zQ T P V = 0) {t : TK} (ht : t ∈ T) :
  zX T P V t.i = ((yA (P.zip V) t.i).1, 0) ∧ leftV T P V t.i = (allR t.k t.r - (yA (P.zip V) t.i).1, 0) ∧ 0 ≤ (yA (P.zip V) t.i).1 ∧ (yA (P.zip V) t.i).1 ≤ 60 ∧ 0 ≤ allR t.k t.r - (yA (P.zip V) t.i).1 ∧ allR t.k t.r ≤ 60 := by
 have hr := zE h
 have hm : (yA (P.zip V) t.i).1 = ((zG (P.zip V) t.i).length : Int) := by rw [many_rides]
 rw [hm]
 have e1 : zX T P V t.i = (((zG (P.zip V) t.i).length : Int), 0) := by rw [zX, if_neg (by simpa using h), if_pos (hasT_mem ht)]
 have hb := rides_bounded h ht
 have hlen := ridesL_len (P.zip V) t.i
 rw [List.length_zip] at hlen
 have hk := tikOf_at (zW hr.2.2.2.1) (hasT_mem ht)
 have hsame : tikOf T t.i = t := by
  obtain ⟨j, hj⟩ := List.mem_iff_getElem?.1 ht
  have h1 := hk.1
  rcases Nat.lt_trichotomy (posT T t.i) j with hlt | heq | hgt
  ·have := zW hr.2.2.2.1 _ _ _ _ h1 hj hlt
   have := hk.2.1
   omega
  ·rw [heq, hj] at h1
   exact (Option.some.inj h1).symm
  ·have := zW hr.2.2.2.1 _ _ _ _ hj h1 hgt
   have := hk.2.1
   omega
 have e2 := leftV_of4 e1
 rw [hsame] at e2
 refine ⟨e1, e2, by omega, by omega, ?_⟩
 have hc := yG hr.2.2.2.1 t ht
 have hR := chk_right (i := t.i) (k := t.k) (f := t.f) (t := t.t) (z := t.z) (r := t.r) hc
 unfold allR
 by_cases k1 : t.k = 1
 ·have := hb.1 k1
  rw [if_pos k1]
  omega
 ·rw [if_neg k1]
  by_cases k2 : t.k = 2
  ·rw [if_pos k2]
   omega
  ·rw [if_neg k2]
   have hkk := hR.2.2.2.2.1
   have hr9 : t.r ≤ 9 := by
    have := hR.2.2.2.2.2.2
    unfold yO at this
    split at this
    ·have := (yH _ _ _).1 this; omega
    ·simp at this; omega
   have := hb.2 (by omega)
   omega
theorem taps_facts {T : List TK} {P : List TP} {V : List Int} (h : zQ T P V = 0) : ∀ x ∈ P.zip V, (0 ≤ x.1.g ∧ x.1.g ≤ 2) ∧ (0 ≤ x.1.m ∧ x.1.m ≤ 9999) ∧ (x.2 = 1 ∨ x.2 = 2) := by
 intro x hx
 obtain ⟨p, v⟩ := x
 have hp := (List.of_mem_zip hx).1
 have hv := (List.of_mem_zip hx).2
 have hr := zE h
 have hc := chkP_right (a := p.a) (g := p.g) (s := p.s) (m := p.m) (z := p.z) (errP_all_chk hr.2.2.2.2 p hp)
 exact ⟨hc.2.1, hc.2.2.2.1, chkL_verds h v hv⟩
theorem headB_len {T : List TK} {P : List TP} {V : List Int} (h : zQ T P V = 0) {t : TK} (ht : t ∈ T) : (headB (P.zip V) t).length ≤ 60 := by
 have hf := line_facts h ht
 have h1 := zU (n := (yA (P.zip V) t.i).1) (by omega)
 have h2 := zU (n := allR t.k t.r - (yA (P.zip V) t.i).1) (by omega)
 have h3 := printV_len t.i t.k t.f t.t t.z t.r
 unfold headB
 simp only [List.length_append, List.length_cons, List.length_nil]
 omega
theorem lineB_len {T : List TK} {P : List TP} {V : List Int} (h : zQ T P V = 0) {t : TK} (ht : t ∈ T) : (yK (P.zip V) t).length ≤ 3000 := by
 have h1 := headB_len h ht
 have h2 := tapsB_len (id := t.i) (P.zip V) (fun x hx => by have := taps_facts h x hx; omega)
 have h3 : (P.zip V).length ≤ 60 := by rw [List.length_zip]; have := zE h; omega
 unfold yK
 rw [List.length_append]
 omega
#print axioms line_facts
#print axioms lineB_len
#print axioms sign_any
structure Fr (B b : Nat) (w w' : World) : Prop where
 bl : Below B w w'
 ok : Lib.OthersKept 5 (some b) w w'
theorem Fr.refl (B b : Nat) (w : World) : Fr B b w w := ⟨Below.refl _ _, Lib.OthersKept.refl _ _ _⟩
theorem Fr.trans {B b : Nat} {u v w : World} (h : Fr B b u v) (k : Fr B b v w) : Fr B b u w := ⟨h.bl.trans k.bl, h.ok.trans k.ok⟩
theorem Fr.on {B b : Nat} {u v w : World} (h : Fr B b u v) (hB : B ≤ v.heap.size) (k : Below v.heap.size v w) : Fr B b u w := ⟨h.bl.trans (k.mono hB), h.ok.trans (kept_below k)⟩
theorem Fr.obj {B b k : Nat} {u v : World} {o : Obj} (h : Fr B b u v) (ho : u.heap[k]? = some o) (hk : k ≠ b) (h8 : ∀ c fz, o ≠ .cells c 5 fz) : v.heap[k]? = some o := h.ok k o ho (fun e => hk (Option.some.inj e)) h8
theorem strs_alloc (w : World) (X : List (List UInt8)) (T : TypeId) : ∀ (j : Nat) (t : List UInt8), X[j]? = some t → (w.alloc (.cells (X.map fun t => Value.string ⟨t.toArray⟩).toArray T)).cell? ((⟨w.heap.size, 0, none⟩ : Addr).add j) = some (.string ⟨t.toArray⟩) := by
 intro j t hj
 have e : ((⟨w.heap.size, 0, none⟩ : Addr).add j) = ⟨w.heap.size, j, none⟩ := by
  unfold Addr.add
  split
  ·subst j; rfl
  ·simp
 rw [e, cell_of_row _ _ j _ _ _ (heap_alloc_new w _)]
 simp [hj]
theorem put_new (B b : Nat) (z0 z1 z2 : Value) (l : List UInt8) (X : List (List UInt8)) (cs : Array Value) (hcs : cs = (X.map fun t => Value.string ⟨t.toArray⟩).toArray) (n : Nat) (hn : X.length = n) (hn9 : n ≤ 9) (w : World) (h : Wr B w b z0 z1 z2 l) (hBw : B ≤ w.heap.size) (hlen : l.length + X.flatten.length ≤ 1000000) :
  Calls Tryz.prog 20 #[.pointer (some ⟨b, 0, none⟩), .slice (some ⟨w.heap.size, 0, none⟩) n n] (w.alloc (.cells cs 9)) fun e w' => e = .returned (.tuple #[]) ∧
   Wr B w' b z0 z1 z2 (l ++ X.flatten) ∧ Fr B b w w' := by
 subst hcs
 have hb := (Below.refl w.heap.size w).alloc (Nat.le_refl _) (.cells (X.map fun t => Value.string ⟨t.toArray⟩).toArray 9)
 refine (wput_any B b z0 z1 z2 l X ⟨w.heap.size, 0, none⟩ _ n n _ (h.below hb) (by have := hb.size; omega) hn hn9 (strs_alloc w X _) (heap_alloc_new w _) (by intro c fz h; cases h) (by have := h.lt; show w.heap.size ≠ b; omega) hlen).mono ?_
 rintro e w' ⟨h1, h2, h3, h4⟩
 exact ⟨h1, h2, ⟨(hb.mono hBw).trans h3, (kept_below hb).trans h4⟩⟩
def Rd9 (b pb : Nat) (A : Addr) (n c q : Nat) (v : Int) (p : TP) (w : World) : Prop :=
 w.cell? ⟨b, 2, none⟩ = some (.slice (some A) n c) ∧ w.cell? (A.add q) = some (.int .i64 v) ∧ ∃ a : Value, w.heap[pb]? = some (.cells #[a, .int .i64 p.g, .int .i64 p.s, .int .i64 p.m, .int .i64 p.z] 66 (0, 0))
theorem Rd9.below {b pb : Nat} {A : Addr} {n c q : Nat} {v : Int} {p : TP} {w w' : World} (h : Rd9 b pb A n c q v p w) (hb : Below w.heap.size w w') : Rd9 b pb A n c q v p w' :=
 ⟨(hb.cell (World.block_lt_of_cell? w _ h.1)).trans h.1, (hb.cell (World.block_lt_of_cell? w _ h.2.1)).trans h.2.1, have ⟨a, ha⟩ := h.2.2; ⟨a, (hb.block _ (zK ha)).trans ha⟩⟩
theorem Rd9.p {b pb : Nat} {A : Addr} {n c q : Nat} {v : Int} {p : TP} {w : World} (h : Rd9 b pb A n c q v p w) : w.cell? ⟨pb, 1, none⟩ = some (.int .i64 p.g) ∧ w.cell? ⟨pb, 3, none⟩ = some (.int .i64 p.m) :=
 have ⟨_, ha⟩ := h.2.2; ⟨(cell_of_row _ _ 1 _ _ _ ha).trans rfl, (cell_of_row _ _ 3 _ _ _ ha).trans rfl⟩
theorem putTicket_any (T : List TK) (P : List TP) (V : List Int) (o1 o2 o3 : Option Addr) (c1 c2 c3 : Nat) (x : TK) (b : Nat) (l : List UInt8) (w0 w : World)
  (hI : ItoaOk w0) (hT : zH w0 o1 T) (hP : zD w0 o2 P) (hV : zF w0 o3 V) (h0 : zQ T P V = 0) (hc2 : P.length ≤ c2) (hc3 : V.length ≤ c3) (hx : x ∈ T)
  (hb : Below w0.heap.size w0 w) (hW : Wr w0.heap.size w b (.slice o1 T.length c1) (.slice o2 P.length c2) (.slice o3 V.length c3) l) (hlen : l.length ≤ 900000) :
  Calls Tryz.prog 17 #[.pointer (some ⟨b, 0, none⟩), tk x.i x.k x.f x.t x.z x.r] w fun e w' => e = .returned (.tuple #[]) ∧
   Wr w0.heap.size w' b (.slice o1 T.length c1) (.slice o2 P.length c2) (.slice o3 V.length c3) (l ++ yK (P.zip V) x) ∧ Fr w0.heap.size b w w' := by
 have hr := zE h0
 have hf := line_facts h0 hx
 have hfp := taps_facts h0
 have hl60 : P.length ≤ 60 := hr.2.1
 have HLV := zA hr.2.2.1
 have HR := zA (fun W (h : Below w0.heap.size w0 W) => (by
  have e := ridesLed_any T P V x.i o1 o2 o3 c1 c2 c3 W (hT.below h) (hP.below h) (hV.below h) (by omega) (by omega) (by omega) hc2 hc3
  rw [hf.1] at e; exact e : Calls Tryz.prog 48 #[lg o1 o2 o3 T.length c1 P.length c2 V.length c3, .int .i64 x.i] W fun e w' => e = .returned (.tuple #[.int .i64 (yA (P.zip V) x.i).1, .int .i64 0]) ∧ Below W.heap.size W w'))
 have HLf := zA (fun W (h : Below w0.heap.size w0 W) => (by
  have e := leftA_any T P V x.i o1 o2 o3 c1 c2 c3 W (hT.below h) (hP.below h) (hV.below h) (by omega) (by omega) (by omega) hc2 hc3
  rw [hf.2.1] at e; exact e : Calls Tryz.prog 49 #[lg o1 o2 o3 T.length c1 P.length c2 V.length c3, .int .i64 x.i] W fun e w' => e = .returned (.tuple #[.int .i64 (allR x.k x.r - (yA (P.zip V) x.i).1), .int .i64 0]) ∧ Below W.heap.size W w'))
 have HIt := zA (fun W (h : Below w0.heap.size w0 W) (n : Int) (h1 : 0 ≤ n) (h2 : n ≤ 9999) => hI W h n h1 h2)
 have HPa := zA (fun W (h : Below w0.heap.size w0 W) => hP.below h)
 have HVa := zA (fun W (h : Below w0.heap.size w0 W) => hV.below h)
 obtain ⟨pv, hpv⟩ : ∃ pv, pv = (zZ x.i x.k x.f x.t x.z x.r).1 := ⟨_, rfl⟩
 have HPr := zA (fun W => (by rw [hpv]; exact print_any x.i x.k x.f x.t x.z x.r W : Calls Tryz.prog 47 #[tk x.i x.k x.f x.t x.z x.r] W fun e w' => e =   .returned (.tuple #[.string ⟨pv.toArray⟩, .int .i64 (zZ x.i x.k x.f x.t x.z x.r).2]) ∧ Below W.heap.size W w'))
 obtain ⟨M, hM⟩ : ∃ M, M = (yA (P.zip V) x.i).1 := ⟨_, rfl⟩
 obtain ⟨R, hR⟩ : ∃ R, R = allR x.k x.r - (yA (P.zip V) x.i).1 := ⟨_, rfl⟩
 have HH : Hid (headB (P.zip V) x = pv ++ ([32] ++ (itD M ++ ([47] ++ itD R)))) := by rw [hM, hR, hpv]; exact rfl
 have hfb : 0 ≤ M ∧ M ≤ 60 ∧ 0 ≤ R ∧ R ≤ 60 := by rw [hM, hR]; omega
 have hpl : pv.length ≤ 14 := by rw [hpv]; exact printV_len ..
 rw [← hR] at HLf
 rw [← hM] at HR
 have HTl := zA (fun q (_ : q ≤ P.length) => (tapsB_len (id := x.i) ((P.zip V).take q) (fun y hy => by have := hfp y (List.mem_of_mem_take hy); omega)))
 have HFP := zA hfp
 have HW := zA hW
 have HB0 := zA hb
 obtain ⟨M0, M1, R0, R1⟩ := hfb
 have hi1 := zU (n := M) (by omega)
 have hi2 := zU (n := R) (by omega)
 clear hr hf hfp hT hP hV hI h0 hc2 hpv hM hR hW hb
 have hNw := HB0.out.size
 have hbw : b < w.heap.size := HW.out.lt
 generalize (zZ x.i x.k x.f x.t x.z x.r).2 = pe at *
 -- the ticket's box
 have hba := (Below.refl w.heap.size w).alloc (Nat.le_refl _) (.cells #[.int .i64 x.i, .int .i64 x.k, .int .i64 x.f, .int .i64 x.t, .int .i64 x.z, .int .i64 x.r] 51)
 have HF1 := zA ((Fr.refl w0.heap.size b w).on hNw hba)
 have HK := zA (heap_alloc_new w (.cells #[.int .i64 x.i, .int .i64 x.k, .int .i64 x.f, .int .i64 x.t, .int .i64 x.z, .int .i64 x.r] 51))
 have HW1 := zA (HW.out.below hba)
 have k0 : (w.alloc (.cells #[.int .i64 x.i, .int .i64 x.k, .int .i64 x.f, .int .i64 x.t, .int .i64 x.z, .int .i64 x.r] 51)).cell? ⟨w.heap.size, 0, none⟩ = some (.int .i64 x.i) := (cell_of_row _ _ 0 _ _ _ HK.out).trans rfl
 go_enter Tryz.func17, Tryz.ntmps17
 go_wp2_with fail
 clear hba k0
 generalize w.alloc (.cells #[.int .i64 x.i, .int .i64 x.k, .int .i64 x.f, .int .i64 x.t, .int .i64 x.z, .int .i64 x.r] 51) = w1 at *
 refine (HPr.out w1).mono ?_
 rintro e w2 ⟨rfl, hb⟩
 have hs1 : w0.heap.size ≤ w1.heap.size := Nat.le_trans hNw HF1.out.bl.size
 have HF2 := zA (HF1.out.on hs1 hb)
 have HW2 := zA (HW1.out.below hb)
 have HK2 : Hid (w2.heap[w.heap.size]? = some (.cells #[.int .i64 x.i, .int .i64 x.k, .int .i64 x.f, .int .i64 x.t, .int .i64 x.z, .int .i64 x.r] 51 (0, 0))) := zA ((hb.block _ (zK HK.out)).trans HK.out)
 clear hb HF1 HW1 HK hs1
 have HB2 := zA (HB0.out.trans HF2.out.bl)
 have kR : ∀ d os, Calls Tryz.prog 48 #[lg o1 o2 o3 T.length c1 P.length c2 V.length c3, .int .i64 x.i] (Sort.grow (redrawn w2 d) os) fun e w'' => e = .returned (.tuple #[.int .i64 M, .int .i64 0]) ∧ ∃ p : Regrown, w'' = Sort.grow (redrawn w2 p.d) p.os := fun d os => Calls.regrown_of (HR.out _ (HB2.out.trans ((below_regrown w2 d os).mono HB2.out.size)))
 obtain ⟨c0, c1', c2'⟩ := HW2.out.z
 have k0 : w2.cell? ⟨w.heap.size, 0, none⟩ = some (.int .i64 x.i) := (cell_of_row _ _ 0 _ _ _ HK2.out).trans rfl
 have q0 := cell_regrown c0
 have q1 := cell_regrown c1'
 have q2 := cell_regrown c2'
 have q3 := cell_regrown k0
 go_wp2_with fail
 refine wp_region_quiet_below (by kernel_rfl) (by kernel_rfl) ?_
 repeat (go_big_quiet_step (first | exact kR _ _))
 refine wpQuiet_nil ?_
 intro _ hw'
 obtain ⟨⟨dq, osq⟩, hw''⟩ := hw'
 subst hw''
 have hb := below_regrown w2 dq osq
 clear kR c0 c1' c2' k0 q0 q1 q2 q3 HB2
 generalize Sort.grow (redrawn w2 dq) osq = w3 at *
 have hs2 : w0.heap.size ≤ w2.heap.size := Nat.le_trans hNw HF2.out.bl.size
 have HF3 := zA (HF2.out.on hs2 hb)
 have HW3 := zA (HW2.out.below hb)
 have HK3 : Hid (w3.heap[w.heap.size]? = some (.cells #[.int .i64 x.i, .int .i64 x.k, .int .i64 x.f, .int .i64 x.t, .int .i64 x.z, .int .i64 x.r] 51 (0, 0))) := zA ((hb.block _ (zK HK2.out)).trans HK2.out)
 clear hb HF2 HW2 HK2 hs2
 have HB3 := zA (HB0.out.trans HF3.out.bl)
 have kL : ∀ d os, Calls Tryz.prog 49 #[lg o1 o2 o3 T.length c1 P.length c2 V.length c3, .int .i64 x.i] (Sort.grow (redrawn w3 d) os) fun e w'' => e = .returned (.tuple #[.int .i64 R, .int .i64 0]) ∧ ∃ p : Regrown, w'' = Sort.grow (redrawn w3 p.d) p.os := fun d os => Calls.regrown_of (HLf.out _ (HB3.out.trans ((below_regrown w3 d os).mono HB3.out.size)))
 obtain ⟨c0, c1', c2'⟩ := HW3.out.z
 have k0 : w3.cell? ⟨w.heap.size, 0, none⟩ = some (.int .i64 x.i) := (cell_of_row _ _ 0 _ _ _ HK3.out).trans rfl
 have q0 := cell_regrown c0
 have q1 := cell_regrown c1'
 have q2 := cell_regrown c2'
 have q3 := cell_regrown k0
 go_wp2_with fail
 refine wp_region_quiet_below (by kernel_rfl) (by kernel_rfl) ?_
 repeat (go_big_quiet_step (first | exact kL _ _))
 refine wpQuiet_nil ?_
 intro _ hw'
 obtain ⟨⟨dq, osq⟩, hw''⟩ := hw'
 subst hw''
 have hb := below_regrown w3 dq osq
 clear kL c0 c1' c2' k0 q0 q1 q2 q3 HB3
 generalize Sort.grow (redrawn w3 dq) osq = w4 at *
 have hs3 : w0.heap.size ≤ w3.heap.size := Nat.le_trans hNw HF3.out.bl.size
 have HF4 := zA (HF3.out.on hs3 hb)
 have HW4 := zA (HW3.out.below hb)
 have HK4 : Hid (w4.heap[w.heap.size]? = some (.cells #[.int .i64 x.i, .int .i64 x.k, .int .i64 x.f, .int .i64 x.t, .int .i64 x.z, .int .i64 x.r] 51 (0, 0))) := zA ((hb.block _ (zK HK3.out)).trans HK3.out)
 clear hb HF3 HW3 HK3 hs3
 go_wp2_with fail
 refine (HIt.out w4 (HB0.out.trans HF4.out.bl) M (by omega) (by omega)).mono ?_
 rintro e w5 ⟨rfl, hb⟩
 have hs4 : w0.heap.size ≤ w4.heap.size := Nat.le_trans hNw HF4.out.bl.size
 have HF5 := zA (HF4.out.on hs4 hb)
 have HW5 := zA (HW4.out.below hb)
 have HK5 : Hid (w5.heap[w.heap.size]? = some (.cells #[.int .i64 x.i, .int .i64 x.k, .int .i64 x.f, .int .i64 x.t, .int .i64 x.z, .int .i64 x.r] 51 (0, 0))) := zA ((hb.block _ (zK HK4.out)).trans HK4.out)
 clear hb HF4 HW4 HK4 hs4
 go_wp2_with fail
 refine (HIt.out w5 (HB0.out.trans HF5.out.bl) R (by omega) (by omega)).mono ?_
 rintro e w6 ⟨rfl, hb⟩
 have hs5 : w0.heap.size ≤ w5.heap.size := Nat.le_trans hNw HF5.out.bl.size
 have HF6 := zA (HF5.out.on hs5 hb)
 have HW6 := zA (HW5.out.below hb)
 have HK6 : Hid (w6.heap[w.heap.size]? = some (.cells #[.int .i64 x.i, .int .i64 x.k, .int .i64 x.f, .int .i64 x.t, .int .i64 x.z, .int .i64 x.r] 51 (0, 0))) := zA ((hb.block _ (zK HK5.out)).trans HK5.out)
 clear hb HF5 HW5 HK5 hs5
 go_wp2_with fail
 have hs6 : w0.heap.size ≤ w6.heap.size := Nat.le_trans hNw HF6.out.bl.size
 refine (put_new w0.heap.size b _ _ _ l [pv, [32], itD M, [47], itD R] _ rfl 5 rfl (by decide) w6 HW6.out hs6 (by simp; omega)).mono ?_
 rintro e w7 ⟨rfl, h1, h2⟩
 have HW7 : Hid (Wr w0.heap.size w7 b (.slice o1 T.length c1) (.slice o2 P.length c2) (.slice o3 V.length c3) (l ++ headB (P.zip V) x)) := by rw [HH.out]; simpa using zA h1
 have HF7 := zA (HF6.out.trans h2)
 have HK7 : Hid (w7.heap[w.heap.size]? = some (.cells #[.int .i64 x.i, .int .i64 x.k, .int .i64 x.f, .int .i64 x.t, .int .i64 x.z, .int .i64 x.r] 51 (0, 0))) := zA (h2.obj HK6.out (by omega) (by intro c fz h; cases h))
 have hhl : (headB (P.zip V) x).length ≤ 60 := by rw [HH.out]; simp; omega
 clear h1 h2 HF6 HW6 HK6 hs6 HH
 have hd1 := HW7.out.z.2.1
 go_wp2_with fail
 clear hd1
 generalize hy : headB (P.zip V) x = y at *
 have HY := zA hy
 clear hy
 go_loopw [51] (fun j wr => ∃ q : Nat, q ≤ P.length ∧ j = .int .i64 (q : Int) ∧ Hid (Wr w0.heap.size wr b (.slice o1 T.length c1) (.slice o2 P.length c2) (.slice o3 V.length c3) (l ++ (y ++ yC ((P.zip V).take q) x.i))) ∧ Hid (Fr w0.heap.size b w wr) ∧ Hid (wr.heap[w.heap.size]? = some (.cells #[.int .i64 x.i, .int .i64 x.k, .int .i64 x.f, .int .i64 x.t, .int .i64 x.z, .int .i64 x.r] 51 (0, 0)))) (fun j _ => P.length - (intOf j).toNat)
 case atStart => exact ⟨0, Nat.zero_le _, rfl, by simpa [yC] using HW7, HF7, HK7⟩
 case round =>
  clear HW7 HF7 HK7
  obtain ⟨q, hq, rfl, HWr, HFr, HKr⟩ := hrel
  by_cases hgo : q < P.length
  ·obtain ⟨p, hp⟩ : ∃ p, P[q]? = some p := ⟨P[q], by simp [hgo]⟩
   obtain ⟨v, hv⟩ : ∃ v, V[q]? = some v := ⟨V[q]'(by have := HLV.out; omega), by simp⟩
   have hz : (P.zip V)[q]? = some (p, v) := by rw [List.getElem?_zip_eq_some]; exact ⟨hp, hv⟩
   have hpf := HFP.out _ (List.mem_of_getElem? hz)
   have htk : yC ((P.zip V).take (q + 1)) x.i = yC ((P.zip V).take q) x.i ++ (if p.a = x.i then rtapB p v else []) := by
    have e2 : (P.zip V).take (q + 1) = (P.zip V).take q ++ [(p, v)] := by rw [List.take_add_one, hz]; rfl
    rw [e2]
    exact tapsB_snoc ((P.zip V).take q) (p, v) x.i
   have HTk := zA htk
   have HTq := zA (HTl.out q hq)
   have hzl : ((P.zip V).take q).length ≤ 60 := by rw [List.length_take]; omega
   have HBr := zA (HB0.out.trans HFr.out.bl)
   have hsr := HBr.out.size
   obtain ⟨A2, rfl, t0, t1, t2, t3, t4⟩ := HPa.out wr HBr.out q p hp
   obtain ⟨A3, rfl, v00⟩ := HVa.out w0 (Below.refl _ _) q v hv
   have hvx : (A3.add q).block < w0.heap.size := World.block_lt_of_cell? w0 _ v00
   have v0 : wr.cell? (A3.add q) = some (.int .i64 v) := (HBr.out.cell hvx).trans v00
   have HV0 := zA v0
   clear htk hz hv v0 v00
   have k0 : wr.cell? ⟨w.heap.size, 0, none⟩ = some (.int .i64 x.i) := (cell_of_row _ _ 0 _ _ _ HKr.out).trans rfl
   have lk : w.heap.size < wr.heap.size := zK HKr.out
   have hba := (Below.refl wr.heap.size wr).alloc (Nat.le_refl _) (.cells #[.int .i64 p.a, .int .i64 p.g, .int .i64 p.s, .int .i64 p.m, .int .i64 p.z] 66)
   have HFa := zA (HFr.out.on hsr hba)
   have HWa := zA (HWr.out.below hba)
   have HKa : Hid ((wr.alloc (.cells #[.int .i64 p.a, .int .i64 p.g, .int .i64 p.s, .int .i64 p.m, .int .i64 p.z] 66)).heap[w.heap.size]? = some (.cells #[.int .i64 x.i, .int .i64 x.k, .int .i64 x.f, .int .i64 x.t, .int .i64 x.z, .int .i64 x.r] 51 (0, 0))) := zA ((hba.block _ (zK HKr.out)).trans HKr.out)
   have HPb := zA (heap_alloc_new wr (.cells #[.int .i64 p.a, .int .i64 p.g, .int .i64 p.s, .int .i64 p.m, .int .i64 p.z] 66))
   have ka : (wr.alloc (.cells #[.int .i64 p.a, .int .i64 p.g, .int .i64 p.s, .int .i64 p.m, .int .i64 p.z] 66)).cell? ⟨w.heap.size, 0, none⟩ = some (.int .i64 x.i) := (cell_of_row _ _ 0 _ _ _ HKa.out).trans rfl
   have HVb := zA ((hba.cell (World.block_lt_of_cell? wr _ HV0.out)).trans HV0.out)
   by_cases hid : p.a = x.i
   ·rw [if_pos hid] at HTk
    rw [hid] at t0 HFa HWa HKa HPb HVb ka
    clear hid
    go_wp2_with fail
    clear t0 t1 t2 t3 t4 k0 ka hba HFr HWr HKr HV0
    have HRd := zA (show Rd9 b wr.heap.size A3 V.length c3 q v p (wr.alloc (.cells #[.int .i64 x.i, .int .i64 p.g, .int .i64 p.s, .int .i64 p.m, .int .i64 p.z] 66)) from ⟨HWa.out.z.2.2, HVb.out, ⟨_, HPb.out⟩⟩)
    clear HPb HVb
    have hpb : wr.heap.size < (wr.alloc (.cells #[.int .i64 x.i, .int .i64 p.g, .int .i64 p.s, .int .i64 p.m, .int .i64 p.z] 66)).heap.size := zK HRd.out.2.2.choose_spec
    have hbp : b < wr.heap.size := by have := HWa.out; have h := HFa.out.bl.size; omega
    generalize wr.alloc (.cells #[.int .i64 x.i, .int .i64 p.g, .int .i64 p.s, .int .i64 p.m, .int .i64 p.z] 66) = wa at *
    refine wp_region_reads (Rd9 b wr.heap.size A3 V.length c3 q v p) [0, 1, 2, 3, 4, 5, 6, 7, 8, 10, 11, 13, 14] 5 (by rfl) (by kernel_rfl) (by kernel_rfl) (by kernel_rfl) (fun c d v a w h => by cases d <;> exact h) ?_ ?_
    ·exact HRd.out.below (Below.refl _ _).drew
    refine zC (.pointer (some ⟨b, 0, none⟩)) rfl rfl (fun w' hS => ?_) ?_
    ·have hS2 := hS.p
     obtain ⟨s1, s2, -⟩ := hS
     obtain ⟨s3, s4⟩ := hS2
     have hqv : q < V.length := by have := HLV.out; omega
     go_simp
     try (intro h; omega)
    refine zC (.pointer (some ⟨b, 0, none⟩)) rfl rfl (fun w' hS => ?_) ?_
    ·have hS2 := hS.p
     obtain ⟨s1, s2, -⟩ := hS
     obtain ⟨s3, s4⟩ := hS2
     have hqv : q < V.length := by have := HLV.out; omega
     go_simp
     try (intro h; omega)
    refine zC (.pointer (some ⟨b, 0, none⟩)) rfl rfl (fun w' hS => ?_) ?_
    ·have hS2 := hS.p
     obtain ⟨s1, s2, -⟩ := hS
     obtain ⟨s3, s4⟩ := hS2
     have hqv : q < V.length := by have := HLV.out; omega
     go_simp
     try (intro h; omega)
    refine zC (.pointer (some ⟨b, 0, none⟩)) rfl rfl (fun w' hS => ?_) ?_
    ·have hS2 := hS.p
     obtain ⟨s1, s2, -⟩ := hS
     obtain ⟨s3, s4⟩ := hS2
     have hqv : q < V.length := by have := HLV.out; omega
     go_simp
     try (intro h; omega)
    refine zC (.pointer (some ⟨b, 2, none⟩)) rfl rfl (fun w' hS => ?_) ?_
    ·have hS2 := hS.p
     obtain ⟨s1, s2, -⟩ := hS
     obtain ⟨s3, s4⟩ := hS2
     have hqv : q < V.length := by have := HLV.out; omega
     go_simp
     try (intro h; omega)
    refine zC (.slice (some A3) V.length c3) rfl rfl (fun w' hS => ?_) ?_
    ·have hS2 := hS.p
     obtain ⟨s1, s2, -⟩ := hS
     obtain ⟨s3, s4⟩ := hS2
     have hqv : q < V.length := by have := HLV.out; omega
     go_simp
     try (intro h; omega)
    refine zC (.int .i64 (q : Int)) rfl rfl (fun w' hS => ?_) ?_
    ·have hS2 := hS.p
     obtain ⟨s1, s2, -⟩ := hS
     obtain ⟨s3, s4⟩ := hS2
     have hqv : q < V.length := by have := HLV.out; omega
     go_simp
     try (intro h; omega)
    refine zC (.pointer (some (A3.add q))) rfl rfl (fun w' hS => ?_) ?_
    ·have hS2 := hS.p
     obtain ⟨s1, s2, -⟩ := hS
     obtain ⟨s3, s4⟩ := hS2
     have hqv : q < V.length := by have := HLV.out; omega
     go_simp
     try (intro h; omega)
    refine zC (.int .i64 v) rfl rfl (fun w' hS => ?_) ?_
    ·have hS2 := hS.p
     obtain ⟨s1, s2, -⟩ := hS
     obtain ⟨s3, s4⟩ := hS2
     have hqv : q < V.length := by have := HLV.out; omega
     go_simp
     try (intro h; omega)
    refine zC (.pointer (some ⟨wr.heap.size, 1, none⟩)) rfl rfl (fun w' hS => ?_) ?_
    ·have hS2 := hS.p
     obtain ⟨s1, s2, -⟩ := hS
     obtain ⟨s3, s4⟩ := hS2
     have hqv : q < V.length := by have := HLV.out; omega
     go_simp
     try (intro h; omega)
    refine zC (.int .i64 p.g) rfl rfl (fun w' hS => ?_) ?_
    ·have hS2 := hS.p
     obtain ⟨s1, s2, -⟩ := hS
     obtain ⟨s3, s4⟩ := hS2
     have hqv : q < V.length := by have := HLV.out; omega
     go_simp
     try (intro h; omega)
    refine zC (.pointer (some ⟨wr.heap.size, 3, none⟩)) rfl rfl (fun w' hS => ?_) ?_
    ·have hS2 := hS.p
     obtain ⟨s1, s2, -⟩ := hS
     obtain ⟨s3, s4⟩ := hS2
     have hqv : q < V.length := by have := HLV.out; omega
     go_simp
     try (intro h; omega)
    refine zC (.int .i64 p.m) rfl rfl (fun w' hS => ?_) ?_
    ·have hS2 := hS.p
     obtain ⟨s1, s2, -⟩ := hS
     obtain ⟨s3, s4⟩ := hS2
     have hqv : q < V.length := by have := HLV.out; omega
     go_simp
     try (intro h; omega)
    refine wpPureH_nil ?_
    have hbd := (Below.refl wa.heap.size wa).drew
    have hsa : w0.heap.size ≤ wa.heap.size := Nat.le_trans hNw HFa.out.bl.size
    have HF1 := zA (HFa.out.on hsa hbd)
    have HW1 := zA (HWa.out.below hbd)
    have HK1 : Hid (wa.drew.heap[w.heap.size]? = _) := zA ((hbd.block _ (zK HKa.out)).trans HKa.out)
    have HR1 := zA (HRd.out.below hbd)
    have hpd : wr.heap.size < wa.drew.heap.size := hpb
    clear hbd hsa HFa HWa HKa HRd hpb
    generalize wa.drew = w1 at *
    refine oR 9 rfl rfl fun J hJ => ?_
    go_simp
    refine (sign_any v w1).mono ?_
    rintro e w' ⟨rfl, hw⟩
    obtain rfl := hw.symm
    refine hJ _ _ HR1.out ?_
    clear hJ J
    refine oR 12 rfl rfl fun J hJ => ?_
    go_simp
    refine (HIt.out w1 (HB0.out.trans HF1.out.bl) p.g (by omega) (by omega)).mono ?_
    rintro e w2 ⟨rfl, hb⟩
    have hs1 : w0.heap.size ≤ w1.heap.size := Nat.le_trans hNw HF1.out.bl.size
    have HF2 := zA (HF1.out.on hs1 hb)
    have HW2 := zA (HW1.out.below hb)
    have HK2 : Hid (w2.heap[w.heap.size]? = _) := zA ((hb.block _ (zK HK1.out)).trans HK1.out)
    have HR2 := zA (HR1.out.below hb)
    refine hJ _ _ HR2.out ?_
    clear hJ J hb HF1 HW1 HK1 HR1 hs1
    refine oR 15 rfl rfl fun J hJ => ?_
    go_simp
    refine (HIt.out w2 (HB0.out.trans HF2.out.bl) p.m (by omega) (by omega)).mono ?_
    rintro e w3 ⟨rfl, hb⟩
    have hs2 : w0.heap.size ≤ w2.heap.size := Nat.le_trans hNw HF2.out.bl.size
    have HF3 := zA (HF2.out.on hs2 hb)
    have HW3 := zA (HW2.out.below hb)
    have HK3 : Hid (w3.heap[w.heap.size]? = _) := zA ((hb.block _ (zK HK2.out)).trans HK2.out)
    have HR3 := zA (HR2.out.below hb)
    refine hJ _ _ HR3.out ?_
    clear hJ J hb HF2 HW2 HK2 HR2 hs2
    have hs3 : w0.heap.size ≤ w3.heap.size := Nat.le_trans hNw HF3.out.bl.size
    refine oR 16 rfl rfl fun J hJ => ?_
    go_simp
    refine hJ _ _ (HR3.out.below ((Below.refl w3.heap.size w3).alloc (Nat.le_refl _) _)) ?_
    clear hJ J
    refine oR 17 rfl rfl fun J hJ => ?_
    go_simp
    have hg1 := zU (n := p.g) (by omega)
    have hg2 := zU (n := p.m) (by omega)
    have hTl := HTq.out
    have hll : (l ++ (y ++ yC ((P.zip V).take q) x.i)).length + [[32], (if v = 1 then [114] else [99] : List UInt8), itD p.g, [64], itD p.m].flatten.length ≤ 1000000 := by
     simp only [List.length_append, List.length_flatten, List.map_cons, List.map_nil, List.sum_cons, List.sum_nil, List.length_cons, List.length_nil]
     split <;> simp only [List.length_cons, List.length_nil] <;> omega
    refine (put_new w0.heap.size b _ _ _ _ [[32], (if v = 1 then [114] else [99] : List UInt8), itD p.g, [64], itD p.m] _ rfl 5 rfl (by decide) w3 HW3.out hs3 hll).mono ?_
    rintro e w4 ⟨rfl, h1, h2⟩
    have HW4 : Hid (Wr w0.heap.size w4 b (.slice o1 T.length c1) (.slice (some A2) P.length c2) (.slice (some A3) V.length c3) (l ++ (y ++ yC ((P.zip V).take (q + 1)) x.i))) := by
     rw [HTk.out]
     have e1 : l ++ (y ++ (yC ((P.zip V).take q) x.i ++ rtapB p v)) = (l ++ (y ++ yC ((P.zip V).take q) x.i)) ++ [[32], (if v = 1 then [114] else [99] : List UInt8), itD p.g, [64], itD p.m].flatten := by
      unfold rtapB
      simp
     rw [e1]
     exact zA h1
    have HF4 := zA (HF3.out.trans h2)
    have HK4 : Hid (w4.heap[w.heap.size]? = some (.cells #[.int .i64 x.i, .int .i64 x.k, .int .i64 x.f, .int .i64 x.t, .int .i64 x.z, .int .i64 x.r] 51 (0, 0))) := zA (h2.obj HK3.out (by omega) (by intro c fz h; cases h))
    refine hJ _ _ ⟨HW4.out.z.2.2, (h2.bl.cell hvx).trans HR3.out.2.1, HR3.out.2.2.imp fun a ha => h2.obj ha (by omega) (by intro c fz h; cases h)⟩ ?_
    clear hJ J h1 h2 HW3 HF3 HK3 HR3 hs3 hll hTl hg1 hg2
    refine wpAnyH_done (by kernel_rfl) ?_ _
    go_wp2_with fail
    go_roundw
    case rel => exact ⟨q + 1, by omega, by go_num, HW4, HF4, HK4⟩
    case measure => simp [intOf]; omega
   ·rw [if_neg hid, List.append_nil] at HTk
    go_wp2_with fail
    clear t0 t1 t2 t3 t4 k0 ka hba
    go_roundw
    case rel => exact ⟨q + 1, by omega, by go_num, by rw [HTk.out]; exact HWa, HFa, HKa⟩
    case measure => simp [intOf]; omega
  ·have hqe : (P.zip V).take q = P.zip V := List.take_of_length_le (by rw [List.length_zip]; omega)
   rw [hqe] at HWr
   go_wp2_with fail
   go_end0
   exact ⟨rfl, by unfold yK; rw [HY.out]; exact HWr.out, HFr.out⟩
#print axioms putTicket_any
end
section
open Go.ChangeShapes Go.WideShapes Go.ChangeAt Go.RowKit Go.Deep
theorem own : ownKnob Tryz.prog.godebug = none := by kernel_rfl
theorem laid : laidOutB Tryz.prog = true := by kernel_rfl
theorem cells3' : Tryz.prog.cellsOf 3 = 1 := by kernel_rfl
theorem cells23 : Tryz.prog.cellsOf 51 = 6 := by kernel_rfl
theorem cells32 : Tryz.prog.cellsOf 66 = 5 := by kernel_rfl
theorem cells30 : Tryz.prog.cellsOf 23 = 1 := by kernel_rfl
theorem cells40 : Tryz.prog.cellsOf 22 = 1 := by kernel_rfl
theorem cells41 : Tryz.prog.cellsOf 24 = 1 := by kernel_rfl
theorem cells43 : Tryz.prog.cellsOf 26 = 3 := by kernel_rfl
section
variable {H : Type} {enc : TypeId × Value → H}
theorem six_of {W : World} {base fuel : Nat} {sp : Nat → Bool} {hd : Bool} {cs : List Value} {x : DataW H × List MemPlace} (hsz : cs.length = 6) (h : DataW.trod enc Tryz.prog W base sp hd fuel 51 cs = some x) :
  ∃ i k f t z r : Int, cs = [.int .i64 i, .int .i64 k, .int .i64 f, .int .i64 t, .int .i64 z, .int .i64 r] := by
 match cs, hsz with
 | [c0, c1, c2, c3, c4, c5], _ =>
 obtain ⟨xs, n, _, hx, hl, hlen, hfs⟩ := DataW.trod_struct Tryz.underlying51 h
 match xs, hlen with
 | [y0, y1, y2, y3, y4, y5], _ =>
 have g0 := hfs 0 _ rfl
 have g1 := hfs 1 _ rfl
 have g2 := hfs 2 _ rfl
 have g3 := hfs 3 _ rfl
 have g4 := hfs 4 _ rfl
 have g5 := hfs 5 _ rfl
 simp [cells3'] at g0 g1 g2 g3 g4 g5
 obtain ⟨i, e0, -⟩ := DataW.trod_int Tryz.underlying3 g0
 obtain ⟨k, e1, -⟩ := DataW.trod_int Tryz.underlying3 g1
 obtain ⟨f, e2, -⟩ := DataW.trod_int Tryz.underlying3 g2
 obtain ⟨t, e3, -⟩ := DataW.trod_int Tryz.underlying3 g3
 obtain ⟨z, e4, -⟩ := DataW.trod_int Tryz.underlying3 g4
 obtain ⟨r, e5, -⟩ := DataW.trod_int Tryz.underlying3 g5
 simp only [List.cons.injEq, and_true] at e0 e1 e2 e3 e4 e5
 subst e0 e1 e2 e3 e4 e5
 exact ⟨i, k, f, t, z, r, rfl⟩
theorem five_of {W : World} {base fuel : Nat} {sp : Nat → Bool} {hd : Bool} {cs : List Value} {x : DataW H × List MemPlace} (hsz : cs.length = 5) (h : DataW.trod enc Tryz.prog W base sp hd fuel 66 cs = some x) :
  ∃ a g s m z : Int, cs = [.int .i64 a, .int .i64 g, .int .i64 s, .int .i64 m, .int .i64 z] := by
 match cs, hsz with
 | [c0, c1, c2, c3, c4], _ =>
 obtain ⟨xs, n, _, hx, hl, hlen, hfs⟩ := DataW.trod_struct Tryz.underlying66 h
 match xs, hlen with
 | [y0, y1, y2, y3, y4], _ =>
 have g0 := hfs 0 _ rfl
 have g1 := hfs 1 _ rfl
 have g2 := hfs 2 _ rfl
 have g3 := hfs 3 _ rfl
 have g4 := hfs 4 _ rfl
 simp [cells3'] at g0 g1 g2 g3 g4
 obtain ⟨i, e0, -⟩ := DataW.trod_int Tryz.underlying3 g0
 obtain ⟨k, e1, -⟩ := DataW.trod_int Tryz.underlying3 g1
 obtain ⟨f, e2, -⟩ := DataW.trod_int Tryz.underlying3 g2
 obtain ⟨t, e3, -⟩ := DataW.trod_int Tryz.underlying3 g3
 obtain ⟨z, e4, -⟩ := DataW.trod_int Tryz.underlying3 g4
 simp only [List.cons.injEq, and_true] at e0 e1 e2 e3 e4
 subst e0 e1 e2 e3 e4
 exact ⟨i, k, f, t, z, rfl⟩
theorem args_kept {P : Program} (hl : laidOutB P = true) {W W' : World} (hb : Below W.heap.size W W') : ∀ {ts : List TypeId} {vs : List Value} {ds : List (DataW H)} {ps : List MemPlace},
  (ts.all fun t => P.readableRec t && decide (t < P.types.size)) = true → DataW.TrodAll enc P W 0 (fun _ => true) true ts vs ds ps → (∀ x ∈ ps, x.block < W.heap.size) →
  DataW.TrodAll enc P W' 0 (fun b => decide (b < W.heap.size)) true ts vs ds ps
 | [], vs, ds, ps, _, h, _ => by
  obtain ⟨rfl, rfl, rfl⟩ := trodAll_nil h
  exact trodAll_mk0
 | t :: ts, vs, ds, ps, ht, h, hlt => by
  obtain ⟨v, vs', d, ds', p, q, rfl, rfl, rfl, h0, h1⟩ := trodAll_cons h
  simp only [List.all_cons, Bool.and_eq_true, decide_eq_true_eq] at ht
  exact trodAll_cons_mk (Below.trod hl ht.1.1 ht.1.2 h0 hb (fun x hx => hlt x (by simp [hx]))) (args_kept hl hb (by simpa using ht.2) h1 (fun x hx => hlt x (by simp [hx])))
end
end
section
open Go.ChangeShapes Go.WideShapes Go.ChangeAt Go.RowKit Go.Deep
theorem cellsDen : Tryz.prog.cellsOf 28 = 2 := by kernel_rfl
theorem cellsGate : Tryz.prog.cellsOf 47 = 8 := by kernel_rfl
theorem cellsBud : Tryz.prog.cellsOf 45 = 2 := by kernel_rfl
section
variable {H : Type} {enc : TypeId × Value → H}
theorem taps_ofV {W : World} {base fuel : Nat} {sp : Nat → Bool} {hd : Bool} {cs : List Value} {x : DataW H × List MemPlace} (h : DataW.trod enc Tryz.prog W base sp hd fuel 23 cs = some x) :
  ∃ (o : Option Addr) (L : List TP) (cap : Nat), cs = [.slice o L.length cap] ∧ zD W o L ∧ L.length ≤ 9223372036854775807 ∧ L.length ≤ cap ∧ (o = none → cap = 0) := by
 rcases open_slice Tryz.underlying23 h with ⟨rfl, -⟩ | ⟨a, len, cap, m, n, D, Pl, rfl, hb, hl, hm, hmm, -, hx⟩
 ·exact ⟨none, [], 0, rfl, fun i p h => by simp at h, by simp, by simp, fun _ => rfl⟩
 ·rw [cells32] at hx
  have hle : len ≤ m := by rw [hmm]; split <;> omega
  have hT : ∀ i, i < len → ∃ p : TP, Tap5 W (a.add (i * 5)) p := by
   intro i hi
   obtain ⟨cs', h1, h2⟩ := hx i (by omega)
   obtain ⟨_, hlen, hc⟩ := World.cells?_some h1
   obtain ⟨b0, b1, b2, b3, b4, rfl⟩ := five_of hlen h2
   refine ⟨⟨b0, b1, b2, b3, b4⟩, ?_, ?_, ?_, ?_, ?_⟩
   ·simpa [Addr.add] using hc 0 (by omega)
   ·simpa [Addr.add] using hc 1 (by omega)
   ·simpa [Addr.add] using hc 2 (by omega)
   ·simpa [Addr.add] using hc 3 (by omega)
   ·simpa [Addr.add] using hc 4 (by omega)
  haveI : Inhabited TP := ⟨⟨0, 0, 0, 0, 0⟩⟩
  obtain ⟨F, hF⟩ := choose_lt hT
  refine ⟨some a, (List.range len).map F, cap, by simp, ?_, ?_, by simpa using hl, fun h => by cases h⟩
  ·intro i p hi
   rw [List.getElem?_map, Option.map_eq_some_iff] at hi
   obtain ⟨j, hj, rfl⟩ := hi
   obtain ⟨hlt, rfl⟩ : i < len ∧ i = j := by simpa using List.getElem?_eq_some_iff.1 hj
   exact ⟨a, rfl, hF i hlt⟩
  ·have : maxLen = 9223372036854775807 := rfl
   simp
   omega
theorem tiks_ofV {W : World} {base fuel : Nat} {sp : Nat → Bool} {hd : Bool} {cs : List Value} {x : DataW H × List MemPlace} (h : DataW.trod enc Tryz.prog W base sp hd fuel 22 cs = some x) :
  ∃ (o : Option Addr) (L : List TK) (cap : Nat), cs = [.slice o L.length cap] ∧ zH W o L ∧ L.length ≤ 9223372036854775807 ∧ L.length ≤ cap ∧ (o = none → cap = 0) := by
 rcases open_slice Tryz.underlying22 h with ⟨rfl, -⟩ | ⟨a, len, cap, m, n, D, Pl, rfl, hb, hl, hm, hmm, -, hx⟩
 ·exact ⟨none, [], 0, rfl, fun i p h => by simp at h, by simp, by simp, fun _ => rfl⟩
 ·rw [cells23] at hx
  have hle : len ≤ m := by rw [hmm]; split <;> omega
  have hT : ∀ i, i < len → ∃ p : TK, Tik6 W (a.add (i * 6)) p := by
   intro i hi
   obtain ⟨cs', h1, h2⟩ := hx i (by omega)
   obtain ⟨_, hlen, hc⟩ := World.cells?_some h1
   obtain ⟨b0, b1, b2, b3, b4, b5, rfl⟩ := six_of hlen h2
   refine ⟨⟨b0, b1, b2, b3, b4, b5⟩, ?_, ?_, ?_, ?_, ?_, ?_⟩
   ·simpa [Addr.add] using hc 0 (by omega)
   ·simpa [Addr.add] using hc 1 (by omega)
   ·simpa [Addr.add] using hc 2 (by omega)
   ·simpa [Addr.add] using hc 3 (by omega)
   ·simpa [Addr.add] using hc 4 (by omega)
   ·simpa [Addr.add] using hc 5 (by omega)
  haveI : Inhabited TK := ⟨⟨0, 0, 0, 0, 0, 0⟩⟩
  obtain ⟨F, hF⟩ := choose_lt hT
  refine ⟨some a, (List.range len).map F, cap, by simp, ?_, ?_, by simpa using hl, fun h => by cases h⟩
  ·intro i p hi
   rw [List.getElem?_map, Option.map_eq_some_iff] at hi
   obtain ⟨j, hj, rfl⟩ := hi
   obtain ⟨hlt, rfl⟩ : i < len ∧ i = j := by simpa using List.getElem?_eq_some_iff.1 hj
   exact ⟨a, rfl, hF i hlt⟩
  ·have : maxLen = 9223372036854775807 := rfl
   simp
   omega
theorem ints_ofV {W : World} {base fuel : Nat} {sp : Nat → Bool} {hd : Bool} {cs : List Value} {x : DataW H × List MemPlace} (h : DataW.trod enc Tryz.prog W base sp hd fuel 24 cs = some x) :
  ∃ (o : Option Addr) (L : List Int) (cap : Nat), cs = [.slice o L.length cap] ∧ zF W o L ∧ L.length ≤ 9223372036854775807 ∧ L.length ≤ cap ∧ (o = none → cap = 0) := by
 rcases open_slice1 Tryz.underlying24 cells3' h with ⟨rfl, -⟩ | ⟨a, len, cap, m, n, V, D, Pl, rfl, hb, hl, hm, hmm, -, hx⟩
 ·exact ⟨none, [], 0, rfl, fun i p h => by simp at h, by simp, by simp, fun _ => rfl⟩
 ·have hle : len ≤ m := by rw [hmm]; split <;> omega
  have hT : ∀ i, i < len → ∃ p : Int, W.cell? (a.add i) = some (.int .i64 p) := by
   intro i hi
   obtain ⟨h1, h2⟩ := hx i (by omega)
   obtain ⟨k, e0, -⟩ := DataW.trod_int Tryz.underlying3 h2
   simp only [List.cons.injEq, and_true] at e0
   exact ⟨k, by rw [h1, e0]⟩
  obtain ⟨F, hF⟩ := choose_lt hT
  refine ⟨some a, (List.range len).map F, cap, by simp, ?_, ?_, by simpa using hl, fun h => by cases h⟩
  ·intro i p hi
   rw [List.getElem?_map, Option.map_eq_some_iff] at hi
   obtain ⟨j, hj, rfl⟩ := hi
   obtain ⟨hlt, rfl⟩ : i < len ∧ i = j := by simpa using List.getElem?_eq_some_iff.1 hj
   exact ⟨a, rfl, hF i hlt⟩
  ·have : maxLen = 9223372036854775807 := rfl
   simp
   omega
def IntsOk (W : World) (o : Option Addr) (L : List Int) (c : Nat) : Prop := zF W o L ∧ L.length ≤ 9223372036854775807 ∧ L.length ≤ c ∧ (o = none → c = 0)
def TapsOk (W : World) (o : Option Addr) (L : List TP) (c : Nat) : Prop := zD W o L ∧ L.length ≤ 9223372036854775807 ∧ L.length ≤ c ∧ (o = none → c = 0)
theorem den_of {W : World} {base fuel : Nat} {sp : Nat → Bool} {hd : Bool} {cs : List Value} {x : DataW H × List MemPlace} (hsz : cs.length = 2) (h : DataW.trod enc Tryz.prog W base sp hd fuel 28 cs = some x) :
  ∃ (v : Int) (o : Option Addr) (L : List Int) (c : Nat), cs = [.int .i64 v, .slice o L.length c] ∧ IntsOk W o L c := by
 match cs, hsz with
 | [d0, d1], _ =>
 obtain ⟨xs, n, _, hx, hl, hlen, hfs⟩ := DataW.trod_struct Tryz.underlying28 h
 match xs, hlen with
 | [y0, y1], _ =>
 have g0 := hfs 0 _ rfl
 have g1 := hfs 1 _ rfl
 simp [cells3', cells41] at g0 g1
 obtain ⟨k, e0, -⟩ := DataW.trod_int Tryz.underlying3 g0
 obtain ⟨o, L, c, e1, t1, t2, t3, t4⟩ := ints_ofV g1
 simp only [List.cons.injEq, and_true] at e0 e1
 subst e0 e1
 exact ⟨_, _, _, _, rfl, t1, t2, t3, t4⟩
abbrev gtV (i z s : Int) (oa : Option Addr) (na ca : Nat) (v : Int) (od : Option Addr) (nd cd : Nat) (l u : Int) : Value := .agg #[.int .i64 i, .int .i64 z, .int .i64 s, .slice oa na ca, .int .i64 v, .slice od nd cd, .int .i64 l, .int .i64 u]
end
end
section
open Go.ChangeShapes Go.WideShapes Go.ChangeAt Go.RowKit Go.Deep
structure VW where
 e : Int
 l : Int
 u : Bool
abbrev vwV (e l : Int) (u : Bool) : Value := .agg #[.int .i64 e, .int .i64 l, .bool u]
structure Vw3 (w : World) (b : Addr) (p : VW) : Prop where
 c0 : w.cell? b = some (.int .i64 p.e)
 c1 : w.cell? ⟨b.block, b.off + 1, none⟩ = some (.int .i64 p.l)
 c2 : w.cell? ⟨b.block, b.off + 2, none⟩ = some (.bool p.u)
theorem Vw3.lt {w : World} {b : Addr} {p : VW} (h : Vw3 w b p) : b.block < w.heap.size := World.block_lt_of_cell? w b h.c0
theorem Vw3.below {B : Nat} {w w' : World} {b : Addr} {p : VW} (h : Vw3 w b p) (hb : Below B w w') (hlt : b.block < B) : Vw3 w' b p :=
 ⟨by rw [hb.cell hlt]; exact h.c0, by rw [hb.cell (p := ⟨b.block, b.off + 1, none⟩) hlt]; exact h.c1, by rw [hb.cell (p := ⟨b.block, b.off + 2, none⟩) hlt]; exact h.c2⟩
def zJ (w : World) (o : Option Addr) (L : List VW) : Prop := ∀ i p, L[i]? = some p → ∃ b, o = some b ∧ Vw3 w (b.add (i * 3)) p
theorem zJ.below {w w' : World} {o : Option Addr} {L : List VW} (h : zJ w o L) (hb : Below w.heap.size w w') : zJ w' o L :=
 fun i p hi => have ⟨b, e, h5⟩ := h i p hi; ⟨b, e, h5.below hb h5.lt⟩
theorem cellsVw : Tryz.prog.cellsOf 109 = 3 := by kernel_rfl
theorem cellsBl : Tryz.prog.cellsOf 4 = 1 := by kernel_rfl
theorem infoVw : (Tryz.prog.info? 109).map (fun i => (i.zero, i.size, i.bytes)) = some (some (.agg #[.int .i64 0, .int .i64 0, .bool false]), 3, 24) := by kernel_rfl
def zP (L : List VW) : List Value := L.flatMap fun p => [.int .i64 p.e, .int .i64 p.l, .bool p.u]
theorem cellsW_len (L : List VW) : (zP L).length = L.length * 3 := by
 induction L with
 | nil => rfl
 | cons p L ih =>
  rw [zP, List.flatMap_cons, List.length_append, List.length_cons, ← zP, ih]
  simp; omega
theorem cellsW_app (L M : List VW) : zP (L ++ M) = zP L ++ zP M := by simp [zP]
theorem yU (L : List VW) (i : Nat) (p : VW) (h : L[i]? = some p) (j : Nat) (hj : j < 3) : (zP L)[i * 3 + j]? = [Value.int .i64 p.e, .int .i64 p.l, .bool p.u][j]? := by
 induction L generalizing i with
 | nil => simp at h
 | cons q L ih =>
  rw [zP, List.flatMap_cons, ← zP]
  match i, h with
  | 0, h =>
   simp at h
   subst h
   rw [List.getElem?_append_left (by simp; omega)]
   simp
  | i + 1, h =>
   rw [List.getElem?_append_right (by simp; omega)]
   simp only [List.length_cons, List.length_nil]
   rw [show (i + 1) * 3 + j - (0 + 1 + 1 + 1) = i * 3 + j by omega]
   exact ih i (by simpa using h)
theorem oneW (L : List VW) : ∀ u ∈ zP L, u.oneCell' = true := by
 intro u hu
 simp only [zP, List.mem_flatMap, List.mem_cons, List.not_mem_nil, or_false] at hu
 obtain ⟨p, -, h⟩ := hu
 rcases h with rfl | rfl | rfl <;> rfl
theorem vws_cells {w : World} {A : Addr} {L : List VW} (h : zJ w (some A) L) : ∀ j u, (zP L)[j]? = some u → w.cell? (A.add j) = some u := by
 intro j u hu
 have hlt := (List.getElem?_eq_some_iff.1 hu).1
 rw [cellsW_len] at hlt
 obtain ⟨p, hp⟩ : ∃ p, L[j / 3]? = some p := ⟨L[j / 3]'(by omega), by simp⟩
 obtain ⟨b, hb, c0, c1, c2⟩ := h _ p hp
 cases hb
 have hj : j = j / 3 * 3 + j % 3 := by omega
 have hr : j % 3 < 3 := by omega
 have e := yU L _ p hp (j % 3) hr
 rw [← hj, hu] at e
 generalize j / 3 = q at *
 generalize j % 3 = r at *
 subst hj
 match r, hr, e with
 | 0, _, e => simp at e; subst e; exact c0
 | 1, _, e => simp at e; subst e; rw [← xA _ _ _ (by decide)]; exact c1
 | 2, _, e => simp at e; subst e; rw [← xA _ _ _ (by decide)]; exact c2
def VwsV (w : World) (v : Value) (L : List VW) : Prop := ∃ o cap, v = .slice o L.length cap ∧ zJ w o L ∧ L.length ≤ cap ∧ (o = none → cap = 0)
theorem VwsV.below {w w' : World} {v : Value} {L : List VW} (h : VwsV w v L) (hb : Below w.heap.size w w') : VwsV w' v L := have ⟨o, c, e, h1, h2⟩ := h; ⟨o, c, e, h1.below hb, h2⟩
theorem vwsV_own {w : World} {base n : Nat} {v : Value} {L : List VW} (h : w.ownsRow base 109 3 v n (zP L)) : VwsV w v L := by
 have hn : n = L.length := by have := h.1; rw [cellsW_len] at this; omega
 subst hn
 have hc := fun g => h.cells (g := g)
 rcases h.2 with ⟨rfl, h0⟩ | ⟨g, cap, cur, rfl, -, -, hcap, -⟩
 ·have : L = [] := List.eq_nil_of_length_eq_zero h0
  subst this
  exact ⟨none, 0, rfl, fun i p hi => by simp at hi, by simp, fun _ => rfl⟩
 ·refine ⟨_, cap, rfl, fun i p hi => ⟨_, rfl, ?_⟩, hcap, fun h => by cases h⟩
  have e := fun j hj => yU L i p hi j hj
  have c := fun j u hu => hc g rfl (i * 3 + j) u hu
  refine ⟨?_, ?_, ?_⟩
  ·have := c 0 _ (e 0 (by omega))
   simpa using this
  ·rw [xA _ _ _ (by decide)]; exact c 1 _ (e 1 (by omega))
  ·rw [xA _ _ _ (by decide)]; exact c 2 _ (e 2 (by omega))
section
variable {H : Type} {enc : TypeId × Value → H}
theorem three_of {W : World} {base fuel : Nat} {sp : Nat → Bool} {hd : Bool} {cs : List Value} {x : DataW H × List MemPlace} (hsz : cs.length = 3) (h : DataW.trod enc Tryz.prog W base sp hd fuel 109 cs = some x) :
  ∃ (e l : Int) (u : Bool), cs = [.int .i64 e, .int .i64 l, .bool u] := by
 match cs, hsz with
 | [c0, c1, c2], _ =>
 obtain ⟨xs, n, _, hx, hl, hlen, hfs⟩ := DataW.trod_struct Tryz.underlying109 h
 match xs, hlen with
 | [y0, y1, y2], _ =>
 have g0 := hfs 0 _ rfl
 have g1 := hfs 1 _ rfl
 have g2 := hfs 2 _ rfl
 simp [cells3', cellsBl] at g0 g1 g2
 obtain ⟨i, e0, -⟩ := DataW.trod_int Tryz.underlying3 g0
 obtain ⟨k, e1, -⟩ := DataW.trod_int Tryz.underlying3 g1
 obtain ⟨f, e2, -⟩ := DataW.trod_bool Tryz.underlying4 g2
 simp only [List.cons.injEq, and_true] at e0 e1 e2
 subst e0 e1 e2
 exact ⟨i, k, f, rfl⟩
def VwsOk (W : World) (o : Option Addr) (L : List VW) (c : Nat) : Prop := zJ W o L ∧ L.length ≤ 9223372036854775807 ∧ L.length ≤ c ∧ (o = none → c = 0)
theorem vws_ofV {W : World} {base fuel : Nat} {sp : Nat → Bool} {hd : Bool} {cs : List Value} {x : DataW H × List MemPlace} (h : DataW.trod enc Tryz.prog W base sp hd fuel 30 cs = some x) :
  ∃ (o : Option Addr) (L : List VW) (cap : Nat), cs = [.slice o L.length cap] ∧ VwsOk W o L cap := by
 rcases open_slice Tryz.underlying30 h with ⟨rfl, -⟩ | ⟨a, len, cap, m, n, D, Pl, rfl, hb, hl, hm, hmm, -, hx⟩
 ·exact ⟨none, [], 0, rfl, fun i p h => by simp at h, by simp, by simp, fun _ => rfl⟩
 ·rw [cellsVw] at hx
  have hle : len ≤ m := by rw [hmm]; split <;> omega
  have hT : ∀ i, i < len → ∃ p : VW, Vw3 W (a.add (i * 3)) p := by
   intro i hi
   obtain ⟨cs', h1, h2⟩ := hx i (by omega)
   obtain ⟨_, hlen, hc⟩ := World.cells?_some h1
   obtain ⟨b0, b1, b2, rfl⟩ := three_of hlen h2
   refine ⟨⟨b0, b1, b2⟩, ?_, ?_, ?_⟩
   ·simpa [Addr.add] using hc 0 (by omega)
   ·simpa [Addr.add] using hc 1 (by omega)
   ·simpa [Addr.add] using hc 2 (by omega)
  haveI : Inhabited VW := ⟨⟨0, 0, false⟩⟩
  obtain ⟨F, hF⟩ := choose_lt hT
  refine ⟨some a, (List.range len).map F, cap, by simp, ?_, ?_, by simpa using hl, fun h => by cases h⟩
  ·intro i p hi
   rw [List.getElem?_map, Option.map_eq_some_iff] at hi
   obtain ⟨j, hj, rfl⟩ := hi
   obtain ⟨hlt, rfl⟩ : i < len ∧ i = j := by simpa using List.getElem?_eq_some_iff.1 hj
   exact ⟨a, rfl, hF i hlt⟩
  ·have : maxLen = 9223372036854775807 := rfl
   simp
   omega
end
theorem cloneW_any (L : List VW) (o : Option Addr) (cap : Nat) (w : World) (hL : zJ w o L) (hlen : L.length ≤ 60) :
  Calls Tryz.prog 65 #[.slice o L.length cap] w fun e w' => (∃ v, e = .returned v ∧ VwsV w' v L ∧ yD w.heap.size v) ∧ Below w.heap.size w w' := by
 obtain ⟨i0, hi, hz0, hz1, hz2⟩ := info_parts infoVw
 have q : ∀ (w : World) (a : Option Addr) (n c n' c' : Nat), (binOp .eql 30 (.slice a n c) (.slice none n' c')).run Tryz.prog w = .ok (.bool a.isNone) w := fun w a n c n' c' => Lib.run_eql_slice_nil w _ _ a n c n' c' Tryz.underlying30
 cases o with
 | none =>
  have hL0 : L = [] := by
   cases L with
   | nil => rfl
   | cons x L => obtain ⟨b, hb, -⟩ := hL 0 x rfl; cases hb
  subst hL0
  go_enter Tryz.func65, Tryz.ntmps65
  go_wp2
  go_ret
  exact ⟨⟨_, rfl, ⟨none, 0, rfl, fun i p hi => by simp at hi, by simp, fun _ => rfl⟩, fun k hk => by simp [Value.ownBlock] at hk⟩, Below.refl _ _⟩
 | some A =>
  have HN := zA (vws_cells (hL.below ((Below.refl w.heap.size w).alloc (Nat.le_refl _) (.cells #[] 109))))
  have HO := zA (World.ownsRow_made (base := w.heap.size) (e := 109) (size := 3) w #[] 0 (Nat.le_refl _) (by decide) rfl)
  clear hL
  go_enter Tryz.func65, Tryz.ntmps65
  go_wp2_with (at_builtin; refine wpList_append_own _ rfl _ _ 30 rfl w.heap.size 109 i0 _ 3 24 Tryz.underlying30 hi hz0 hz1 hz2 rfl (by decide) _ 0 _ rfl HO.out A L.length cap (zP L) rfl (cellsW_len L) HN.out (oneW L) (by unfold maxLen; omega) (by omega) (by simp) ?_; intro v1 w1 hown1 hgrow1 _)
  go_ret
  exact ⟨⟨_, rfl, vwsV_own hown1, fun k hk => (hown1.lt k hk).1⟩, ((Below.refl w.heap.size w).alloc (Nat.le_refl _) _).grown hgrow1 (by simp) (fun k hk => (HO.out.lt k hk).1)⟩
end
section
open Go.RowKit
def chkW (p : VW) : Int := if (wi p.e 0 99 && wi p.l 0 1) = false then 3 else if p.e = 0 ∧ p.l ≠ 0 then 4 else 0
def twoW (v w : VW) : Bool := v.e == w.e && v.l != w.l
def splW (L : List VW) : Bool := L.any fun v => L.any fun w => twoW v w
def zO (L : List VW) : Int := if L.length = 3 then (if zB (L.map chkW) = 0 then (if splW L = true then 4 else 0) else zB (L.map chkW)) else 1
def zY : List VW → VW
 | [] => ⟨0, 0, false⟩
 | x :: r => r.foldl (fun m y => if m.e < y.e then y else m) x
def mostW (g : VW → Bool) (L : List VW) : Bool := decide (3 < 2 * (L.countP g : Int))
def upG (v : VW) : Bool := v.u
def upAt (L : List VW) (i : Int) : Bool := ((L[i.toNat]?).map VW.u).getD false
def lastG (p : VW) : VW → Bool := fun v => v.u && v.e == p.e
def leadsW (L : List VW) : Bool := (zY L).e != 0 && upAt L (zY L).l && mostW (lastG (zY L)) L
def whoW (L : List VW) : Int := if leadsW L = true then (zY L).l else 0
def winsW (L : List VW) (who : Int) : Bool := upAt L who && mostW upG L
def unfW (L : List VW) (who n : Int) : Int := if zO L = 0 then (if wi who 0 n = true then 0 else 3) else zO L
def winE (L : List VW) (who : Int) : Int := if unfW L who 1 = 0 then (if winsW L who = true ∧ (zY L).e = 99 then 2 else 0) else unfW L who 1
def promW (L : List VW) (e who : Int) : List VW := L.map fun v => if v.u = true then ⟨e, who, true⟩ else v
def winB (L : List VW) (who : Int) : Bool := decide (winE L who = 0) && winsW L who
def winL (L : List VW) (who : Int) : List VW := if winsW L who = true then promW L ((zY L).e + 1) who else L
def setL (L : List VW) (who : Int) (up : Bool) : List VW := L.modify who.toNat fun v => ⟨v.e, v.l, up⟩
theorem chkW_zero {p : VW} : chkW p = 0 ↔ (0 ≤ p.e ∧ p.e ≤ 99 ∧ (p.l = 0 ∨ p.l = 1) ∧ (p.e = 0 → p.l = 0)) := by
 rw [chkW]
 simp only [wi, Bool.and_eq_false_iff, decide_eq_false_iff_not]
 split
 ·simp; omega
 ·split
  ·simp; omega
  ·simp; omega
theorem chkVs_three {L : List VW} (h : zO L ≠ 1) : ∃ a b c, L = [a, b, c] := by
 rw [zO] at h
 split at h
 ·rename_i hl
  match L, hl with
  | [a, b, c], _ => exact ⟨a, b, c, rfl⟩
 ·exact absurd rfl h
theorem chkVs_right {L : List VW} (h : zO L = 0) : ∃ a b c, L = [a, b, c] ∧ chkW a = 0 ∧ chkW b = 0 ∧ chkW c = 0 ∧ splW L = false := by
 obtain ⟨a, b, c, rfl⟩ := chkVs_three (L := L) (by omega)
 refine ⟨a, b, c, rfl, ?_⟩
 rw [zO] at h
 simp only [List.length_cons, List.length_nil, List.map_cons, List.map_nil, zB] at h
 by_cases ha : chkW a = 0
 ·by_cases hb : chkW b = 0
  ·by_cases hc : chkW c = 0
   ·simp [ha, hb, hc] at h
    exact ⟨ha, hb, hc, h⟩
   ·simp [ha, hb, hc] at h
  ·simp [ha, hb] at h
 ·simp [ha] at h
theorem chkW_ways (p : VW) : (wi p.e 0 99 = false ∧ chkW p = 3) ∨ (wi p.e 0 99 = true ∧ wi p.l 0 1 = false ∧ chkW p = 3) ∨ (wi p.e 0 99 = true ∧ wi p.l 0 1 = true ∧ (p.e == 0) = true ∧ (p.l != 0) = true ∧ chkW p = 4) ∨
  (wi p.e 0 99 = true ∧ wi p.l 0 1 = true ∧ (p.e == 0) = true ∧ (p.l != 0) = false ∧ chkW p = 0) ∨ (wi p.e 0 99 = true ∧ wi p.l 0 1 = true ∧ (p.e == 0) = false ∧ chkW p = 0) := by
 rw [chkW]
 cases wi p.e 0 99 <;> cases wi p.l 0 1 <;> by_cases h1 : p.e = 0 <;> by_cases h2 : p.l = 0 <;> simp [h1, h2]
theorem checkView_any (e l : Int) (u : Bool) (w : World) :
  Calls Tryz.prog 69 #[vwV e l u] w fun x w' => x = .returned (.int .i64 (chkW ⟨e, l, u⟩)) ∧ Below w.heap.size w w' := by
 rcases chkW_ways ⟨e, l, u⟩ with ⟨h1, h4⟩ | ⟨h1, h2, h4⟩ | ⟨h1, h2, h3, h5, h4⟩ | ⟨h1, h2, h3, h5, h4⟩ | ⟨h1, h2, h3, h4⟩
 all_goals
  rw [h4]
  clear h4
  simp only [] at *
  go_enter Tryz.func69, Tryz.ntmps69
  go_wp2_with (go_at_call 89; refine (zN _ _ _ _).mono ?_; rintro e w' ⟨rfl, rfl⟩)
  go_ret
  exact ⟨rfl, (Below.refl _ _).alloc (Nat.le_refl _) _⟩
theorem split11_any (v : VW) (B : Nat) (e l : Int) (u : Bool) (w : World) (hc0 : w.cell? ⟨B, 0, none⟩ = some (.int .i64 v.e)) (hc1 : w.cell? ⟨B, 1, none⟩ = some (.int .i64 v.l)) :
  Calls Tryz.prog 94 #[vwV e l u, .pointer (some ⟨B, 0, none⟩)] w fun x w' => x = .returned (.bool (twoW v ⟨e, l, u⟩)) ∧ Below w.heap.size w w' := by
 have hlt := World.block_lt_of_cell? w ⟨B, 0, none⟩ hc0
 obtain ⟨ve, vl, vu⟩ := v
 simp only [twoW]
 simp only [] at hc0 hc1
 cases h : (ve == e)
 all_goals
  go_enter Tryz.func94, Tryz.ntmps94
  go_wp2_with fail
  go_ret
  exact ⟨by simp, (Below.refl _ _).alloc (Nat.le_refl _) _⟩
theorem indexSI_any (v : VW) (B : Nat) (o : Option Addr) (cap : Nat) (L : List VW) (w : World) (hL : zJ w o L) (hlen : L.length ≤ 9223372036854775807) (hc0 : w.cell? ⟨B, 0, none⟩ = some (.int .i64 v.e)) (hc1 : w.cell? ⟨B, 1, none⟩ = some (.int .i64 v.l)) :
  Calls Tryz.prog 113 #[.slice o L.length cap, .func (.func 94) #[] #[.pointer (some ⟨B, 0, none⟩)]] w fun e w' =>
   (∃ n : Int, e = .returned (.int .i64 n) ∧ decide (0 ≤ n) = L.any (twoW v)) ∧ Below w.heap.size w w' := by
 have HL := zA hL
 have HI := zA (fun (p : VW) (W : World) => fun (hb : Below w.heap.size w W) (h : w.cell? ⟨B, 0, none⟩ = some (.int .i64 v.e) ∧ w.cell? ⟨B, 1, none⟩ = some (.int .i64 v.l)) => split11_any v B p.e p.l p.u W (by rw [hb.cell (p := ⟨B, 0, none⟩) (World.block_lt_of_cell? w ⟨B, 0, none⟩ h.1)]; exact h.1) (by rw [hb.cell (p := ⟨B, 1, none⟩) (World.block_lt_of_cell? w ⟨B, 0, none⟩ h.1)]; exact h.2))
 clear hL
 have HB0 := zA (⟨hc0, hc1⟩ : (w.cell? ⟨B, 0, none⟩ = some (.int .i64 v.e)) ∧ (w.cell? ⟨B, 1, none⟩ = some (.int .i64 v.l)))
 clear hc0 hc1
 generalize hg : (twoW v) = g at *
 clear hg
 go_enter Tryz.func113, Tryz.ntmps113
 go_wp2_with fail
 go_loopw [8] (fun j wr => ∃ (q : Nat), q ≤ L.length ∧ j = .int .i64 q ∧ Hid ((L.take q).any g = false) ∧ Below w.heap.size w wr) (fun j _ => L.length - (intOf j).toNat)
 case atStart => exact ⟨0, Nat.zero_le _, rfl, by show _ = _; simp, Below.refl _ _⟩
 case round =>
  obtain ⟨q, hq, rfl, hF, hbr⟩ := hrel
  by_cases hgo : q < L.length
  ·obtain ⟨p, hp⟩ : ∃ p, L[q]? = some p := ⟨L[q], by simp [hgo]⟩
   have HS : Hid ((L.take (q + 1)).any g = g p) := by
    show _ = _
    rw [List.take_add_one, hp, Option.toList_some, List.any_append, hF.out]
    simp
   obtain ⟨A, rfl, c0, c1, c2⟩ := (HL.out.below hbr) q p hp
   have HP := zA hp
   have HC := zA (HI.out p wr hbr HB0.out)
   clear hp
   go_wp2_with fail
   refine HC.out.mono ?_
   rintro e w3 ⟨rfl, hb3⟩
   have hbr3 := hbr.trans (hb3.mono hbr.size)
   clear hbr hb3 HC
   cases hx : g p
   ·rw [hx] at HS
    go_wp2_with fail
    exact ⟨⟨q + 1, by omega, by simp, HS, hbr3⟩, by simp [intOf]; omega⟩
   ·go_wp2_with fail
    go_ret
    refine ⟨⟨q, rfl, ?_⟩, hbr3⟩
    have hp := HP.out
    have : L.any g = true := by
     rw [List.any_eq_true]
     exact ⟨p, List.mem_of_getElem? hp, hx⟩
    simp [this]
  ·go_wp2_with fail
   go_ret
   refine ⟨⟨-1, rfl, ?_⟩, hbr⟩
   have h1 := hF.out
   rw [List.take_of_length_le (by omega)] at h1
   simp [h1]
theorem containsSI_any (v : VW) (B : Nat) (o : Option Addr) (cap : Nat) (L : List VW) (w : World) (hL : zJ w o L) (hlen : L.length ≤ 9223372036854775807) (hc0 : w.cell? ⟨B, 0, none⟩ = some (.int .i64 v.e)) (hc1 : w.cell? ⟨B, 1, none⟩ = some (.int .i64 v.l)) :
  Calls Tryz.prog 92 #[.slice o L.length cap, .func (.func 94) #[] #[.pointer (some ⟨B, 0, none⟩)]] w fun e w' =>
   e = .returned (.bool (L.any (twoW v))) ∧ Below w.heap.size w w' := by
 have HI := zA (indexSI_any v B o cap L w hL hlen hc0 hc1)
 clear hL hc0 hc1
 generalize (twoW v) = g at *
 go_enter Tryz.func92, Tryz.ntmps92
 go_wp2_with fail
 refine HI.out.mono ?_
 rintro e w' ⟨⟨n, rfl, hn⟩, hb⟩
 have HN := zA hn
 clear hn
 go_wp2_with fail
 go_ret
 exact ⟨by rw [← HN.out]; rfl, hb⟩
def anyW (M : List VW) (v : VW) : Bool := M.any (twoW v)
theorem split1_any (B : Nat) (o : Option Addr) (cap : Nat) (L : List VW) (e l : Int) (u : Bool) (w : World) (hL : zJ w o L) (hlen : L.length ≤ 9223372036854775807) (hc : w.cell? ⟨B, 0, none⟩ = some (.slice o L.length cap)) :
  Calls Tryz.prog 93 #[vwV e l u, .pointer (some ⟨B, 0, none⟩)] w fun x w' => x = .returned (.bool (anyW L ⟨e, l, u⟩)) ∧ Below w.heap.size w w' := by
 have hlt := World.block_lt_of_cell? w ⟨B, 0, none⟩ hc
 have HB := zA ((zM.nil w).more (.cells #[.int .i64 e, .int .i64 l, .bool u] 109) (by simp))
 have HC := zA (containsSI_any ⟨e, l, u⟩ w.heap.size o cap L _ (hL.below HB.out.2.2) hlen (HB.out.cell 0 0 _ _ _ _ rfl rfl rfl) (HB.out.cell 0 1 _ _ _ _ rfl rfl rfl))
 clear hL
 go_enter Tryz.func93, Tryz.ntmps93
 go_wp2_with fail
 refine HC.out.mono ?_
 rintro e w1 ⟨rfl, hb⟩
 have HB1 := zA (HB.out.on hb)
 clear hb HB
 go_wp2_with fail
 go_ret
 exact ⟨rfl, HB1.out.2.2⟩
theorem indexSO_any (B : Nat) (o1 : Option Addr) (cap1 : Nat) (M : List VW) (o : Option Addr) (cap : Nat) (L : List VW) (w : World) (hL : zJ w o L) (hlen : L.length ≤ 9223372036854775807) (hM : zJ w o1 M) (hlM : M.length ≤ 9223372036854775807) (hc : w.cell? ⟨B, 0, none⟩ = some (.slice o1 M.length cap1)) :
  Calls Tryz.prog 113 #[.slice o L.length cap, .func (.func 93) #[] #[.pointer (some ⟨B, 0, none⟩)]] w fun e w' =>
   (∃ n : Int, e = .returned (.int .i64 n) ∧ decide (0 ≤ n) = L.any (anyW M)) ∧ Below w.heap.size w w' := by
 have HL := zA hL
 have HI := zA (fun (p : VW) (W : World) => fun (hb : Below w.heap.size w W) (h : zJ w o1 M ∧ M.length ≤ 9223372036854775807 ∧ w.cell? ⟨B, 0, none⟩ = some (.slice o1 M.length cap1)) => split1_any B o1 cap1 M p.e p.l p.u W (h.1.below hb) h.2.1 (by rw [hb.cell (p := ⟨B, 0, none⟩) (World.block_lt_of_cell? w ⟨B, 0, none⟩ h.2.2)]; exact h.2.2))
 clear hL
 have HB0 := zA (⟨hM, hlM, hc⟩ : (zJ w o1 M) ∧ (M.length ≤ 9223372036854775807) ∧ (w.cell? ⟨B, 0, none⟩ = some (.slice o1 M.length cap1)))
 clear hM hlM hc
 generalize hg : (anyW M) = g at *
 clear hg
 go_enter Tryz.func113, Tryz.ntmps113
 go_wp2_with fail
 go_loopw [8] (fun j wr => ∃ (q : Nat), q ≤ L.length ∧ j = .int .i64 q ∧ Hid ((L.take q).any g = false) ∧ Below w.heap.size w wr) (fun j _ => L.length - (intOf j).toNat)
 case atStart => exact ⟨0, Nat.zero_le _, rfl, by show _ = _; simp, Below.refl _ _⟩
 case round =>
  obtain ⟨q, hq, rfl, hF, hbr⟩ := hrel
  by_cases hgo : q < L.length
  ·obtain ⟨p, hp⟩ : ∃ p, L[q]? = some p := ⟨L[q], by simp [hgo]⟩
   have HS : Hid ((L.take (q + 1)).any g = g p) := by
    show _ = _
    rw [List.take_add_one, hp, Option.toList_some, List.any_append, hF.out]
    simp
   obtain ⟨A, rfl, c0, c1, c2⟩ := (HL.out.below hbr) q p hp
   have HP := zA hp
   have HC := zA (HI.out p wr hbr HB0.out)
   clear hp
   go_wp2_with fail
   refine HC.out.mono ?_
   rintro e w3 ⟨rfl, hb3⟩
   have hbr3 := hbr.trans (hb3.mono hbr.size)
   clear hbr hb3 HC
   cases hx : g p
   ·rw [hx] at HS
    go_wp2_with fail
    exact ⟨⟨q + 1, by omega, by simp, HS, hbr3⟩, by simp [intOf]; omega⟩
   ·go_wp2_with fail
    go_ret
    refine ⟨⟨q, rfl, ?_⟩, hbr3⟩
    have hp := HP.out
    have : L.any g = true := by
     rw [List.any_eq_true]
     exact ⟨p, List.mem_of_getElem? hp, hx⟩
    simp [this]
  ·go_wp2_with fail
   go_ret
   refine ⟨⟨-1, rfl, ?_⟩, hbr⟩
   have h1 := hF.out
   rw [List.take_of_length_le (by omega)] at h1
   simp [h1]
theorem containsSO_any (B : Nat) (o1 : Option Addr) (cap1 : Nat) (M : List VW) (o : Option Addr) (cap : Nat) (L : List VW) (w : World) (hL : zJ w o L) (hlen : L.length ≤ 9223372036854775807) (hM : zJ w o1 M) (hlM : M.length ≤ 9223372036854775807) (hc : w.cell? ⟨B, 0, none⟩ = some (.slice o1 M.length cap1)) :
  Calls Tryz.prog 92 #[.slice o L.length cap, .func (.func 93) #[] #[.pointer (some ⟨B, 0, none⟩)]] w fun e w' =>
   e = .returned (.bool (L.any (anyW M))) ∧ Below w.heap.size w w' := by
 have HI := zA (indexSO_any B o1 cap1 M o cap L w hL hlen hM hlM hc)
 clear hL hM hlM hc
 generalize (anyW M) = g at *
 go_enter Tryz.func92, Tryz.ntmps92
 go_wp2_with fail
 refine HI.out.mono ?_
 rintro e w' ⟨⟨n, rfl, hn⟩, hb⟩
 have HN := zA hn
 clear hn
 go_wp2_with fail
 go_ret
 exact ⟨by rw [← HN.out]; rfl, hb⟩
theorem split_any (o : Option Addr) (cap : Nat) (L : List VW) (w : World) (hL : zJ w o L) (hlen : L.length ≤ 9223372036854775807) :
  Calls Tryz.prog 70 #[.slice o L.length cap] w fun x w' => x = .returned (.bool (splW L)) ∧ Below w.heap.size w w' := by
 have HB := zA ((zM.nil w).more (.cells #[.slice o L.length cap] 30) (by simp))
 have HC := zA (containsSO_any w.heap.size o cap L o cap L _ (hL.below HB.out.2.2) hlen (hL.below HB.out.2.2) hlen (HB.out.cell 0 0 _ _ _ _ rfl rfl rfl))
 clear hL
 have hs : splW L = L.any (anyW L) := rfl
 rw [hs]
 clear hs
 generalize L.any (anyW L) = R at *
 go_enter Tryz.func70, Tryz.ntmps70
 go_wp2_with fail
 refine HC.out.mono ?_
 rintro e w1 ⟨rfl, hb⟩
 have HB1 := zA (HB.out.on hb)
 clear hb HB
 go_wp2_with fail
 go_ret
 exact ⟨rfl, HB1.out.2.2⟩
theorem firstE_cons (e : Int) (l : List Int) : zB (e :: l) = if e = 0 then zB l else e := rfl
theorem dropW {L : List VW} {q : Nat} {x : VW} (h : L[q]? = some x) : L.drop q = x :: L.drop (q + 1) := by
 obtain ⟨h1, h2⟩ := List.getElem?_eq_some_iff.1 h
 rw [List.drop_eq_getElem_cons h1, h2]
theorem leadCheck_any (o : Option Addr) (cap : Nat) (L : List VW) (w : World) (hL : zJ w o L) (hlen : L.length ≤ 9223372036854775807) :
  Calls Tryz.prog 44 #[.slice o L.length cap] w fun x w' => x = .returned (.int .i64 (zO L)) ∧ Below w.heap.size w w' := by
 have HL := zA hL
 clear hL
 by_cases h3 : L.length = 3
 ·have h3' : ((L.length : Int) != 3) = false := by simp [h3]
  have HC : Hid (zO L = if zB (L.map chkW) = 0 then (if splW L = true then 4 else 0) else zB (L.map chkW)) := by
   show _ = _
   rw [zO, if_pos h3]
  have HS := zA (fun W (h : zJ W o L) => split_any o cap L W h hlen)
  generalize zO L = R at *
  generalize splW L = S at *
  have H3 := zA h3
  clear h3
  go_enter Tryz.func44, Tryz.ntmps44
  go_wp2_with fail
  go_loopw [11] (fun j wr => ∃ (q : Nat), q ≤ L.length ∧ j = .int .i64 q ∧ Hid (zB (L.map chkW) = zB ((L.drop q).map chkW)) ∧ Below w.heap.size w wr) (fun j _ => L.length - (intOf j).toNat)
  case atStart => exact ⟨0, Nat.zero_le _, rfl, by show _ = _; simp, Below.refl _ _⟩
  case round =>
   obtain ⟨q, hq, rfl, hE, hbr⟩ := hrel
   by_cases hgo : q < L.length
   ·obtain ⟨p, hp⟩ : ∃ p, L[q]? = some p := ⟨L[q], by simp [hgo]⟩
    obtain ⟨A, rfl, c0, c1, c2⟩ := (HL.out.below hbr) q p hp
    have hE' := hE.out
    rw [dropW hp, List.map_cons, firstE_cons] at hE'
    clear hE hp
    have HV := zA (fun W => checkView_any p.e p.l p.u W)
    have HE := zA hE'
    clear hE'
    have HW := zA hbr
    go_wp2_with fail
    refine (HV.out _).mono ?_
    rintro e w3 ⟨rfl, hb3⟩
    have HB := zA (HW.out.trans ((Below.alloc (Below.refl wr.heap.size wr) (Nat.le_refl _) (.cells #[.int .i64 p.e, .int .i64 p.l, .bool p.u] 109)).trans (hb3.mono (by simp)) |>.mono HW.out.size))
    clear hbr hb3
    generalize chkW ⟨p.e, p.l, p.u⟩ = E at *
    by_cases h0 : E = 0
    ·subst h0
     have HE' := zA (show zB (L.map chkW) = zB ((L.drop (q + 1)).map chkW) from HE.out)
     go_wp2_with fail
     exact ⟨⟨q + 1, by omega, by simp, HE', HB.out⟩, by simp [intOf]; omega⟩
    ·have h0' : (E != 0) = true := by simpa using h0
     have HR : Hid (R = E) := by
      show _ = _
      have h1 := HE.out
      rw [if_neg h0] at h1
      have h2 := HC.out
      rw [h1, if_neg h0] at h2
      exact h2
     clear h0
     go_wp2_with fail
     go_ret
     exact ⟨by rw [HR.out]; rfl, HB.out⟩
   ·have HR : Hid (R = if S = true then 4 else 0) := by
     show _ = _
     have h1 := hE.out
     rw [List.drop_of_length_le (by omega)] at h1
     have h2 := HC.out
     rw [h1] at h2
     simpa [zB] using h2
    have HW := zA hbr
    go_wp2_with fail
    refine (HS.out _ (HL.out.below HW.out)).mono ?_
    rintro e w3 ⟨rfl, hb3⟩
    have HB := zA (HW.out.trans (hb3.mono HW.out.size))
    clear hbr hb3
    cases S
    ·go_wp2_with fail
     go_ret
     exact ⟨by rw [HR.out]; rfl, HB.out⟩
    ·go_wp2_with fail
     go_ret
     exact ⟨by rw [HR.out]; rfl, HB.out⟩
 ·have h3' : ((L.length : Int) != 3) = true := by simp; omega
  have hR : zO L = 1 := by rw [zO, if_neg h3]
  rw [hR]
  clear hR h3
  go_enter Tryz.func44, Tryz.ntmps44
  go_wp2_with fail
  go_ret
  exact ⟨rfl, Below.refl _ _⟩
theorem unfW_any (who n : Int) (o : Option Addr) (cap : Nat) (L : List VW) (w : World) (hL : zJ w o L) (hlen : L.length ≤ 9223372036854775807) (hn : 0 < n ∧ n < 100) :
  Calls Tryz.prog 62 #[.slice o L.length cap, .int .i64 who, .int .i64 n] w fun x w' => x = .returned (.int .i64 (unfW L who (n - 1))) ∧ Below w.heap.size w w' := by
 have HC := zA (fun W (h : zJ W o L) => leadCheck_any o cap L W h hlen)
 have HL := zA hL
 have hw : IntKind.i64.wrap (n - 1) = n - 1 := by rw [IntKind.wrap_i64]; omega
 have hp : ((zO L != 0) = true ∧ unfW L who (n - 1) = zO L) ∨ (zO L = 0 ∧ wi who 0 (n - 1) = true ∧ unfW L who (n - 1) = 0) ∨ (zO L = 0 ∧ wi who 0 (n - 1) = false ∧ unfW L who (n - 1) = 3) := by
  rw [unfW]
  by_cases h : zO L = 0
  ·cases wi who 0 (n - 1) <;> simp [h]
  ·simp [h]
 clear hL hn
 rcases hp with ⟨h1, h2⟩ | ⟨h1, h3, h2⟩ | ⟨h1, h3, h2⟩
 all_goals
  rw [h2]
  clear h2
  try rw [h1] at HC
  generalize zO L = E at *
  go_enter Tryz.func62, Tryz.ntmps62
  go_wp2_with fail
  refine (HC.out _ HL.out).mono ?_
  rintro e w1 ⟨rfl, hb⟩
  have HB := zA hb
  clear hb
  go_wp2_with (go_at_call 89; refine (zN _ _ _ _).mono ?_; rintro e w' ⟨rfl, rfl⟩)
  go_ret
  exact ⟨rfl, HB.out⟩
theorem newest1_any (v x : VW) (w : World) (h : 0 ≤ v.e ∧ v.e ≤ 99 ∧ 0 ≤ x.e ∧ x.e ≤ 99) :
  Calls Tryz.prog 91 #[vwV v.e v.l v.u, vwV x.e x.l x.u] w fun e w' => e = .returned (.int .i64 (v.e - x.e)) ∧ Below w.heap.size w w' := by
 have hw : IntKind.i64.wrap (v.e - x.e) = v.e - x.e := by rw [IntKind.wrap_i64]; omega
 clear h
 go_enter Tryz.func91, Tryz.ntmps91
 go_wp2_with fail
 go_ret
 exact ⟨rfl, ((Below.refl _ _).alloc (Nat.le_refl _) _).alloc (by simp) _⟩
theorem topW_snoc (L : List VW) (p : VW) (h : L ≠ []) : zY (L ++ [p]) = if (zY L).e < p.e then p else zY L := by
 cases L with
 | nil => exact absurd rfl h
 | cons x r =>
  show List.foldl _ x (r ++ [p]) = _
  rw [List.foldl_append]
  rfl
theorem topW_mem (L : List VW) (h : L ≠ []) : zY L ∈ L := by
 cases L with
 | nil => exact absurd rfl h
 | cons x r =>
  show List.foldl _ x r ∈ x :: r
  clear h
  induction r generalizing x with
  | nil => simp
  | cons y r ih =>
   rw [List.foldl_cons]
   split
   ·exact List.mem_cons_of_mem _ (ih y)
   ·have := ih x
    rw [List.mem_cons] at this
    rcases this with h | h
    ·rw [h]; simp
    ·exact List.mem_cons_of_mem _ (List.mem_cons_of_mem _ h)
theorem maxW_any (o : Option Addr) (cap : Nat) (L : List VW) (w : World) (hL : zJ w o L) (hlen : L.length ≤ 60) (h0 : 0 < L.length) (hr : ∀ p ∈ L, 0 ≤ p.e ∧ p.e ≤ 99) :
  Calls Tryz.prog 90 #[.slice o L.length cap, .func (.func 91) #[] #[]] w fun e w' => e = .returned (vwV (zY L).e (zY L).l (zY L).u) ∧ Below w.heap.size w w' := by
 have HL := zA hL
 have HR := zA hr
 obtain ⟨x, hx⟩ : ∃ x, L[0]? = some x := ⟨L[0], by simp [h0]⟩
 obtain ⟨A, rfl, x0, x1, x2⟩ := hL 0 x hx
 have HX : Hid (zY (L.take 1) = x) := by
  show _ = _
  rw [show L.take 1 = [x] by rw [List.take_one]; cases L <;> simp_all]
  rfl
 have e0 : A.add (0 * 3) = A := by simp [Addr.add]
 rw [e0] at x0 x1 x2
 have h1 : ¬ ((L.length : Int) < 1) := by omega
 have h1' : decide ((L.length : Int) < 1) = false := by simpa using h1
 have hlt := World.block_lt_of_cell? w _ x0
 clear hL hr hx e0
 go_enter Tryz.func90, Tryz.ntmps90
 go_wp2_with fail
 have HG := zA (((zM.nil w).more (.cells #[.int .i64 0, .int .i64 0, .bool false] 109) (by simp)).more (.cells #[.int .i64 x.e, .int .i64 x.l, .bool x.u] 109) (by simp))
 clear x0 x1 x2
 go_loopw [6] (fun j wr => ∃ (q : Nat) (m : VW), 1 ≤ q ∧ q ≤ L.length ∧ j = .int .i64 q ∧ Hid (zY (L.take q) = m) ∧ Hid (zM w wr [.cells #[.int .i64 0, .int .i64 0, .bool false] 109, .cells #[.int .i64 m.e, .int .i64 m.l, .bool m.u] 109])) (fun j _ => L.length - (intOf j).toNat)
 case atStart => exact ⟨1, x, Nat.le_refl _, by omega, rfl, HX, HG.out⟩
 case round =>
  obtain ⟨q, m, hq1, hq, rfl, hM, hG⟩ := hrel
  have l1 := hG.out.lt 1 (w.heap.size + 1) (by simp) rfl
  obtain ⟨c10, c11, c12⟩ := hG.out.c3 1 (w.heap.size + 1) rfl rfl rfl rfl rfl
  obtain ⟨f10, f11, f12⟩ := hG.out.z3 1 (w.heap.size + 1) rfl rfl
  have l0 := hG.out.lt 0 w.heap.size (by simp) rfl
  obtain ⟨c00, c01, c02⟩ := hG.out.c3 0 w.heap.size rfl rfl rfl rfl rfl
  obtain ⟨f00, f01, f02⟩ := hG.out.z3 0 w.heap.size rfl rfl
  by_cases hgo : q < L.length
  ·obtain ⟨p, hp⟩ : ∃ p, L[q]? = some p := ⟨L[q], by simp [hgo]⟩
   have hgI : (q : Int) < (L.length : Int) := by omega
   have hV := (HL.out.below hG.out.2.2) q p hp
   obtain ⟨A', eA, hV⟩ := hV
   cases eA
   have HV := zA hV
   have HS : Hid (zY (L.take (q + 1)) = if m.e < p.e then p else m) := by
    show _ = _
    rw [List.take_add_one, hp, Option.toList_some, topW_snoc _ _ (by intro h; have := congrArg List.length h; rw [List.length_take] at this; simp only [List.length_nil] at this; omega), hM.out]
   have HRm : Hid (0 ≤ p.e ∧ p.e ≤ 99 ∧ 0 ≤ m.e ∧ m.e ≤ 99) := by
    have h1 := HR.out p (List.mem_of_getElem? hp)
    have h2 := HR.out m (by rw [← hM.out]; exact List.mem_of_mem_take (topW_mem _ (by intro h; have := congrArg List.length h; rw [List.length_take] at this; simp only [List.length_nil] at this; omega)))
    exact ⟨h1.1, h1.2, h2.1, h2.2⟩
   have HC := zA (fun W => newest1_any p m W HRm.out)
   have hD : m.e < p.e ↔ 0 < p.e - m.e := by omega
   generalize p.e - m.e = D at HC hD
   have HD := zA hD
   clear hp hV hD
   go_wp2_with fail
   refine wp_region_reads (fun w' => zM w w' [.cells #[.int .i64 0, .int .i64 0, .bool false] 109, .cells #[.int .i64 m.e, .int .i64 m.l, .bool m.u] 109] ∧ Vw3 w' (A.add (q * 3)) p) [0, 1, 2, 3, 4, 5] 2 (by rfl) (by kernel_rfl) (by kernel_rfl) (by kernel_rfl) (fun c d v a w h => by cases d <;> exact h) ?_ ?_
   ·exact ⟨hG.out.on (Below.refl _ _).drew, HV.out.below (Below.refl _ _).drew HV.out.lt⟩
   refine zC (.func (.func 91) #[] #[]) rfl rfl (fun w' hS => ?_) ?_
   ·obtain ⟨hS1, y0, y1, y2⟩ := hS
    obtain ⟨k0, k1, k2⟩ := hS1.c3 1 (w.heap.size + 1) rfl rfl rfl rfl rfl
    go_simp
    try omega
   refine zC (.slice (some A) L.length cap) rfl rfl (fun w' hS => ?_) ?_
   ·obtain ⟨hS1, y0, y1, y2⟩ := hS
    obtain ⟨k0, k1, k2⟩ := hS1.c3 1 (w.heap.size + 1) rfl rfl rfl rfl rfl
    go_simp
    try omega
   refine zC (.int .i64 (q : Int)) rfl rfl (fun w' hS => ?_) ?_
   ·obtain ⟨hS1, y0, y1, y2⟩ := hS
    obtain ⟨k0, k1, k2⟩ := hS1.c3 1 (w.heap.size + 1) rfl rfl rfl rfl rfl
    go_simp
    try omega
   refine zC (.pointer (some (A.add (q * 3)))) rfl rfl (fun w' hS => ?_) ?_
   ·obtain ⟨hS1, y0, y1, y2⟩ := hS
    obtain ⟨k0, k1, k2⟩ := hS1.c3 1 (w.heap.size + 1) rfl rfl rfl rfl rfl
    go_simp
    try omega
   refine zC (vwV p.e p.l p.u) rfl rfl (fun w' hS => ?_) ?_
   ·obtain ⟨hS1, y0, y1, y2⟩ := hS
    obtain ⟨k0, k1, k2⟩ := hS1.c3 1 (w.heap.size + 1) rfl rfl rfl rfl rfl
    go_simp
    try omega
   refine zC (vwV m.e m.l m.u) rfl rfl (fun w' hS => ?_) ?_
   ·obtain ⟨hS1, y0, y1, y2⟩ := hS
    obtain ⟨k0, k1, k2⟩ := hS1.c3 1 (w.heap.size + 1) rfl rfl rfl rfl rfl
    go_simp
    try omega
   refine wpPureH_nil ?_
   have hGd := hG.out.on (Below.refl _ _).drew
   have HGd := zA (And.intro hGd (HV.out.below (Below.refl _ _).drew HV.out.lt))
   clear hGd l1 c10 f10 c11 f11 c12 f12 l0 c00 f00 c01 f01 c02 f02 HV hG
   generalize World.drew _ = wa at *
   refine oR 6 rfl rfl fun K hK => ?_
   go_simp
   refine (HC.out wa).mono ?_
   rintro e wb ⟨rfl, hb⟩
   have HGb := zA (And.intro (HGd.out.1.on hb) (HGd.out.2.below hb HGd.out.2.lt))
   clear hb HGd
   refine hK _ _ HGb.out ?_
   clear hK K
   refine oR 7 rfl rfl fun K hK => ?_
   go_simp
   refine hK _ _ HGb.out ?_
   clear hK K
   refine wpAnyH_done (by kernel_rfl) ?_ _
   have l1 := HGb.out.1.lt 1 (w.heap.size + 1) (by simp) rfl
   obtain ⟨c10, c11, c12⟩ := HGb.out.1.c3 1 (w.heap.size + 1) rfl rfl rfl rfl rfl
   obtain ⟨f10, f11, f12⟩ := HGb.out.1.z3 1 (w.heap.size + 1) rfl rfl
   obtain ⟨y0, y1, y2⟩ := HGb.out.2
   by_cases hmp : 0 < D
   ·have HS' := zA (show zY (L.take (q + 1)) = p by rw [HS.out, if_pos (HD.out.2 hmp)])
    have HP := zA ((((HGb.out.1.put 1 0 (w.heap.size + 1) _ _ (.int .i64 p.e) rfl rfl).put 1 1 (w.heap.size + 1) _ _ (.int .i64 p.l) rfl rfl).put 1 2 (w.heap.size + 1) _ _ (.bool p.u) rfl rfl))
    go_wp2_with fail
    exact ⟨⟨q + 1, p, by omega, by omega, by simp, HS', HP.out⟩, by simp [intOf]; omega⟩
   ·have HS' := zA (show zY (L.take (q + 1)) = m by rw [HS.out, if_neg (fun h => hmp (HD.out.1 h))])
    go_wp2_with fail
    exact ⟨⟨q + 1, m, by omega, by omega, by simp, HS', HGb.out.1⟩, by simp [intOf]; omega⟩
  ·have hgI : ¬ ((q : Int) < (L.length : Int)) := by omega
   have hM' := hM.out
   rw [List.take_of_length_le (by omega)] at hM'
   have HM := zA hM'
   clear hM' hM
   go_wp2_with fail
   refine bodyPost_ret (v := vwV m.e m.l m.u) (by simp [results, Tryz.results90, go_sem, *]) rfl ⟨by rw [HM.out], ?_⟩
   repeat (first | with_reducible refine Below.setCell ?_ (by simp; try omega) _ | exact hG.out.2.2)
theorem newest_any (o : Option Addr) (cap : Nat) (L : List VW) (w : World) (hL : zJ w o L) (hlen : L.length ≤ 60) (h0 : 0 < L.length) (hr : ∀ p ∈ L, 0 ≤ p.e ∧ p.e ≤ 99) :
  Calls Tryz.prog 66 #[.slice o L.length cap] w fun e w' => e = .returned (vwV (zY L).e (zY L).l (zY L).u) ∧ Below w.heap.size w w' := by
 have HG := zA ((zM.nil w).more (.cells #[.int .i64 0, .int .i64 0, .bool false] 109) (by simp))
 have HC := zA (maxW_any o cap L _ (hL.below HG.out.2.2) hlen h0 hr)
 clear hL hr
 generalize zY L = m at *
 go_enter Tryz.func66, Tryz.ntmps66
 go_wp2_with fail
 refine HC.out.mono ?_
 rintro e w1 ⟨rfl, hb⟩
 have HG1 := zA (HG.out.on hb)
 clear hb HG
 have l0 := HG1.out.lt 0 w.heap.size (by simp) rfl
 obtain ⟨c00, c01, c02⟩ := HG1.out.c3 0 w.heap.size rfl rfl rfl rfl rfl
 obtain ⟨f00, f01, f02⟩ := HG1.out.z3 0 w.heap.size rfl rfl
 go_wp2_with fail
 refine bodyPost_ret (v := vwV m.e m.l m.u) (by simp [results, Tryz.results66, go_sem, *]) rfl ⟨rfl, ?_⟩
 repeat (first | with_reducible refine Below.setCell ?_ (by simp; try omega) _ | exact HG1.out.2.2)
theorem now1_any (x : VW) (B : Nat) (e l : Int) (u : Bool) (w : World) (hc0 : w.cell? ⟨B, 0, none⟩ = some (.int .i64 x.e)) :
  Calls Tryz.prog 68 #[vwV e l u, .pointer (some ⟨B, 0, none⟩)] w fun y w' => y = .returned (.bool (lastG x ⟨e, l, u⟩)) ∧ Below w.heap.size w w' := by
 have hlt := World.block_lt_of_cell? w ⟨B, 0, none⟩ hc0
 obtain ⟨xe, xl, xu⟩ := x
 simp only [lastG]
 simp only [] at hc0
 cases u
 all_goals
  go_enter Tryz.func68, Tryz.ntmps68
  go_wp2_with fail
  go_ret
  exact ⟨by simp, (Below.refl _ _).alloc (Nat.le_refl _) _⟩
theorem win1_any (e l : Int) (u : Bool) (w : World) :
  Calls Tryz.prog 64 #[vwV e l u] w fun y w' => y = .returned (.bool (upG ⟨e, l, u⟩)) ∧ Below w.heap.size w w' := by
 go_enter Tryz.func64, Tryz.ntmps64
 go_wp2_with fail
 go_ret
 exact ⟨rfl, (Below.refl _ _).alloc (Nat.le_refl _) _⟩
theorem mostN_any (x : VW) (B : Nat) (o : Option Addr) (cap : Nat) (L : List VW) (w : World) (hL : zJ w o L) (hlen : L.length ≤ 60) (hc0 : w.cell? ⟨B, 0, none⟩ = some (.int .i64 x.e)) :
  Calls Tryz.prog 63 #[.slice o L.length cap, .func (.func 68) #[] #[.pointer (some ⟨B, 0, none⟩)]] w fun e w' => e = .returned (.bool (mostW (lastG x) L)) ∧ Below w.heap.size w w' := by
 have HL := zA hL
 have HI := zA (fun (p : VW) (W : World) (hb : Below w.heap.size w W) => now1_any x B p.e p.l p.u W (by rw [hb.cell (p := ⟨B, 0, none⟩) (World.block_lt_of_cell? w ⟨B, 0, none⟩ hc0)]; exact hc0))
 clear hL hc0
 obtain ⟨R, hR⟩ : ∃ R, mostW (lastG x) L = R := ⟨_, rfl⟩
 rw [hR]
 rw [mostW] at hR
 have HR := zA hR
 clear hR
 generalize (lastG x) = g at *
 go_enter Tryz.func63, Tryz.ntmps63
 go_wp2_with fail
 go_loopw [5, 10] (fun n j wr => ∃ (q k : Nat), q ≤ L.length ∧ k ≤ q ∧ j = .int .i64 q ∧ n = .int .i64 k ∧ Hid (k = (L.take q).countP g) ∧ Below w.heap.size w wr) (fun _ j _ => L.length - (intOf j).toNat)
 case atStart => exact ⟨0, 0, Nat.zero_le _, Nat.le_refl _, rfl, rfl, by show _ = _; simp, Below.refl _ _⟩
 case round =>
  obtain ⟨q, k, hq, hk, rfl, rfl, hF, hbr⟩ := hrel
  by_cases hgo : q < L.length
  ·obtain ⟨p, hp⟩ : ∃ p, L[q]? = some p := ⟨L[q], by simp [hgo]⟩
   have HS : Hid ((L.take (q + 1)).countP g = k + if g p = true then 1 else 0) := by
    show _ = _
    rw [List.take_add_one, hp, Option.toList_some, List.countP_append, ← hF.out]
    simp [List.countP_cons]
   obtain ⟨A, rfl, c0, c1, c2⟩ := (HL.out.below hbr) q p hp
   have HC := zA (HI.out p (wr.alloc (.cells #[.int .i64 p.e, .int .i64 p.l, .bool p.u] 109)) (hbr.alloc hbr.size _))
   have HW := zA hbr
   clear hp hF hbr
   go_wp2_with fail
   refine HC.out.mono ?_
   rintro e w3 ⟨rfl, hb3⟩
   have HB := zA (HW.out.trans ((Below.alloc (Below.refl wr.heap.size wr) (Nat.le_refl _) (.cells #[.int .i64 p.e, .int .i64 p.l, .bool p.u] 109)).trans (hb3.mono (by simp)) |>.mono HW.out.size))
   clear hb3 HC HW
   cases hx : g p
   ·rw [hx] at HS
    have HS' := zA (show k = (L.take (q + 1)).countP g by rw [HS.out]; simp)
    clear HS
    go_wp2_with fail
    exact ⟨⟨q + 1, k, by omega, by omega, by simp, rfl, HS', HB.out⟩, by simp [intOf]; omega⟩
   ·rw [hx] at HS
    have HS' := zA (show k + 1 = (L.take (q + 1)).countP g by rw [HS.out]; simp)
    clear HS
    go_wp2_with fail
    exact ⟨⟨q + 1, k + 1, by omega, by omega, by simp, by simp, HS', HB.out⟩, by simp [intOf]; omega⟩
  ·have h1 := hF.out
   rw [List.take_of_length_le (by omega)] at h1
   have HR' := zA (show R = decide (3 < 2 * (k : Int)) by rw [← HR.out, ← h1])
   clear h1 hF HR
   go_wp2_with fail
   go_ret
   exact ⟨by rw [HR'.out]; rfl, hbr⟩
theorem mostU_any (o : Option Addr) (cap : Nat) (L : List VW) (w : World) (hL : zJ w o L) (hlen : L.length ≤ 60) :
  Calls Tryz.prog 63 #[.slice o L.length cap, .func (.func 64) #[] #[]] w fun e w' => e = .returned (.bool (mostW upG L)) ∧ Below w.heap.size w w' := by
 have HL := zA hL
 have HI := zA (fun (p : VW) (W : World) (_ : Below w.heap.size w W) => win1_any p.e p.l p.u W)
 clear hL
 obtain ⟨R, hR⟩ : ∃ R, mostW upG L = R := ⟨_, rfl⟩
 rw [hR]
 rw [mostW] at hR
 have HR := zA hR
 clear hR
 generalize upG = g at *
 go_enter Tryz.func63, Tryz.ntmps63
 go_wp2_with fail
 go_loopw [5, 10] (fun n j wr => ∃ (q k : Nat), q ≤ L.length ∧ k ≤ q ∧ j = .int .i64 q ∧ n = .int .i64 k ∧ Hid (k = (L.take q).countP g) ∧ Below w.heap.size w wr) (fun _ j _ => L.length - (intOf j).toNat)
 case atStart => exact ⟨0, 0, Nat.zero_le _, Nat.le_refl _, rfl, rfl, by show _ = _; simp, Below.refl _ _⟩
 case round =>
  obtain ⟨q, k, hq, hk, rfl, rfl, hF, hbr⟩ := hrel
  by_cases hgo : q < L.length
  ·obtain ⟨p, hp⟩ : ∃ p, L[q]? = some p := ⟨L[q], by simp [hgo]⟩
   have HS : Hid ((L.take (q + 1)).countP g = k + if g p = true then 1 else 0) := by
    show _ = _
    rw [List.take_add_one, hp, Option.toList_some, List.countP_append, ← hF.out]
    simp [List.countP_cons]
   obtain ⟨A, rfl, c0, c1, c2⟩ := (HL.out.below hbr) q p hp
   have HC := zA (HI.out p (wr.alloc (.cells #[.int .i64 p.e, .int .i64 p.l, .bool p.u] 109)) (hbr.alloc hbr.size _))
   have HW := zA hbr
   clear hp hF hbr
   go_wp2_with fail
   refine HC.out.mono ?_
   rintro e w3 ⟨rfl, hb3⟩
   have HB := zA (HW.out.trans ((Below.alloc (Below.refl wr.heap.size wr) (Nat.le_refl _) (.cells #[.int .i64 p.e, .int .i64 p.l, .bool p.u] 109)).trans (hb3.mono (by simp)) |>.mono HW.out.size))
   clear hb3 HC HW
   cases hx : g p
   ·rw [hx] at HS
    have HS' := zA (show k = (L.take (q + 1)).countP g by rw [HS.out]; simp)
    clear HS
    go_wp2_with fail
    exact ⟨⟨q + 1, k, by omega, by omega, by simp, rfl, HS', HB.out⟩, by simp [intOf]; omega⟩
   ·rw [hx] at HS
    have HS' := zA (show k + 1 = (L.take (q + 1)).countP g by rw [HS.out]; simp)
    clear HS
    go_wp2_with fail
    exact ⟨⟨q + 1, k + 1, by omega, by omega, by simp, by simp, HS', HB.out⟩, by simp [intOf]; omega⟩
  ·have h1 := hF.out
   rw [List.take_of_length_le (by omega)] at h1
   have HR' := zA (show R = decide (3 < 2 * (k : Int)) by rw [← HR.out, ← h1])
   clear h1 hF HR
   go_wp2_with fail
   go_ret
   exact ⟨by rw [HR'.out]; rfl, hbr⟩
def nowB (L : List VW) : Bool := decide (zO L = 0) && leadsW L
def nowI (L : List VW) : Int := if nowB L = true then (zY L).l else 0
theorem yB {L : List VW} (h : zO L = 0) : ∀ p ∈ L, 0 ≤ p.e ∧ p.e ≤ 99 ∧ (p.l = 0 ∨ p.l = 1) := by
 obtain ⟨a, b, c, rfl, ha, hb, hc, -⟩ := chkVs_right h
 rw [chkW_zero] at ha hb hc
 intro p hp
 simp only [List.mem_cons, List.not_mem_nil, or_false] at hp
 rcases hp with rfl | rfl | rfl
 ·exact ⟨ha.1, ha.2.1, ha.2.2.1⟩
 ·exact ⟨hb.1, hb.2.1, hb.2.2.1⟩
 ·exact ⟨hc.1, hc.2.1, hc.2.2.1⟩
theorem yV {L : List VW} (h : zO L = 0) : L.length = 3 := by
 obtain ⟨a, b, c, rfl, -⟩ := chkVs_right h
 rfl
theorem top_facts {L : List VW} (h : zO L = 0) : ∃ (te : Int) (k : Nat) (tu : Bool) (pl : VW), zY L = ⟨te, k, tu⟩ ∧ 0 ≤ te ∧ te ≤ 99 ∧ k < 2 ∧ L[k]? = some pl ∧ upAt L k = pl.u := by
 have hl := yV h
 have hm := topW_mem L (by intro e; rw [e] at hl; simp at hl)
 obtain ⟨h1, h2, h3⟩ := yB h _ hm
 obtain ⟨k, hk, hk2⟩ : ∃ k : Nat, (zY L).l = (k : Int) ∧ k < 2 := by
  rcases h3 with h3 | h3
  ·exact ⟨0, by rw [h3]; rfl, by omega⟩
  ·exact ⟨1, by rw [h3]; rfl, by omega⟩
 obtain ⟨pl, hpl⟩ : ∃ pl, L[k]? = some pl := ⟨L[k]'(by omega), by simp⟩
 refine ⟨(zY L).e, k, (zY L).u, pl, ?_, h1, h2, hk2, hpl, ?_⟩
 ·rw [← hk]
 ·simp [upAt, hpl]
theorem now_any (o : Option Addr) (cap : Nat) (L : List VW) (w : World) (hL : zJ w o L) (hlen : L.length ≤ 9223372036854775807) :
  Calls Tryz.prog 42 #[.slice o L.length cap] w fun e w' => e = .returned (.tuple #[.int .i64 (nowI L), .bool (nowB L), .int .i64 (zO L)]) ∧ Below w.heap.size w w' := by
 have HL := zA hL
 have HC := zA (fun W (h : zJ W o L) => leadCheck_any o cap L W h hlen)
 clear hL
 by_cases h0 : zO L = 0
 ·have hl3 := yV h0
  have HN := zA (fun W (h : zJ W o L) => newest_any o cap L W h (by omega) (by omega) (fun p hp => ⟨(yB h0 p hp).1, (yB h0 p hp).2.1⟩))
  have HM := zA (fun W (h : zJ W o L) (B : Nat) (hc) => mostN_any (zY L) B o cap L W h (by omega) hc)
  obtain ⟨te, k, tu, pl, ht, ht0, ht1, hk, hpl, hup⟩ := top_facts h0
  have hp : ((te == 0) = true ∧ nowB L = false) ∨ ((te == 0) = false ∧ pl.u = false ∧ nowB L = false) ∨ ((te == 0) = false ∧ pl.u = true ∧ mostW (lastG ⟨te, k, tu⟩) L = false ∧ nowB L = false) ∨ ((te == 0) = false ∧ pl.u = true ∧ mostW (lastG ⟨te, k, tu⟩) L = true ∧ nowB L = true) := by
   rw [nowB, leadsW, ht, h0]
   simp only [hup]
   by_cases e0 : te = 0
   ·left; simp [e0]
   ·right
    have e0' : (te == 0) = false := by simpa using e0
    cases pl.u
    ·left; simp [e0]
    ·right
     cases mostW (lastG ⟨te, k, tu⟩) L
     ·left; simp [e0]
     ·right; simp [e0]
  have hI : nowI L = if nowB L = true then (k : Int) else 0 := by rw [nowI, ht]
  generalize nowI L = ni at *
  rw [ht] at HN HM
  rw [h0] at HC ⊢
  have HP := zA hpl
  clear ht h0 hup hpl
  generalize mostW (lastG ⟨te, k, tu⟩) L = M at *
  generalize nowB L = nb at *
  obtain ⟨pe, pll, pu⟩ := pl
  simp only [] at hp
  have hkI : (k : Int) < (L.length : Int) := by omega
  clear hl3
  have HP2 := zA hp
  have HI := zA hI
  clear hp hI
  go_enter Tryz.func42, Tryz.ntmps42
  go_wp2_with fail
  refine (HC.out _ HL.out).mono ?_
  rintro e w1 ⟨rfl, hb1⟩
  have HL1 := zA (HL.out.below hb1)
  have HB1 := zA hb1
  clear hb1
  go_wp2_with fail
  refine (HN.out _ HL1.out).mono ?_
  rintro e w2 ⟨rfl, hb2⟩
  have HL2 := zA (HL1.out.below hb2)
  have HB2 := zA (HB1.out.trans (hb2.mono HB1.out.size))
  clear hb2 HB1 HL1
  have HG := zA ((zM.nil w2).more (.cells #[.int .i64 te, .int .i64 k, .bool tu] 109) (by simp))
  go_upto_region 5 with fail
  have HL3 := zA (HL2.out.below HG.out.2.2)
  generalize w2.alloc _ = wa at *
  obtain ⟨A, rfl, y0, y1, y2⟩ := HL3.out k _ HP.out
  obtain ⟨c00, c01⟩ := HG.out.c2 0 w2.heap.size rfl rfl rfl rfl
  rcases HP2.out with ⟨h1, h4⟩ | ⟨h1, h2, h4⟩ | ⟨h1, h2, h3, h4⟩ | ⟨h1, h2, h3, h4⟩
  ·subst h4
   have hI := HI.out
   simp only [Bool.false_eq_true, if_false] at hI
   subst hI
   go_wp2_with fail
   go_ret3
   exact ⟨rfl, HB2.out.trans (HG.out.2.2.mono HB2.out.size)⟩
  ·subst h4 h2
   have hI := HI.out
   simp only [Bool.false_eq_true, if_false] at hI
   subst hI
   go_wp2_with fail
   go_ret3
   exact ⟨rfl, HB2.out.trans (HG.out.2.2.mono HB2.out.size)⟩
  ·subst h4 h2 h3
   have hI := HI.out
   simp only [Bool.false_eq_true, if_false] at hI
   subst hI
   go_wp2_with fail
   refine (HM.out _ HL3.out w2.heap.size c00).mono ?_
   rintro e w3 ⟨rfl, hb3⟩
   have HG3 := zA (HG.out.on hb3)
   clear hb3
   go_wp2_with fail
   go_ret3
   exact ⟨rfl, HB2.out.trans (HG3.out.2.2.mono HB2.out.size)⟩
  ·subst h4 h2 h3
   have hI := HI.out
   simp only [if_true] at hI
   subst hI
   go_wp2_with fail
   refine (HM.out _ HL3.out w2.heap.size c00).mono ?_
   rintro e w3 ⟨rfl, hb3⟩
   have HG3 := zA (HG.out.on hb3)
   clear hb3 y0 y1 y2 c00 c01
   obtain ⟨c00, c01⟩ := HG3.out.c2 0 w2.heap.size rfl rfl rfl rfl
   go_wp2_with fail
   go_ret3
   exact ⟨rfl, HB2.out.trans (HG3.out.2.2.mono HB2.out.size)⟩
 ·have h0' : (zO L != 0) = true := by simpa using h0
  have hb' : nowB L = false := by simp [nowB, h0]
  have hi' : nowI L = 0 := by simp [nowI, hb']
  rw [hb', hi']
  clear hb' hi' h0
  generalize zO L = E at *
  go_enter Tryz.func42, Tryz.ntmps42
  go_wp2_with fail
  refine (HC.out _ HL.out).mono ?_
  rintro e w1 ⟨rfl, hb⟩
  have HB := zA hb
  clear hb
  go_wp2_with fail
  go_ret3
  exact ⟨rfl, HB.out⟩
abbrev dn (v : Int) (o : Option Addr) (n c : Nat) : Value := .agg #[.int .i64 v, .slice o n c]
theorem isId_any (n : Int) (w : World) :
  Calls Tryz.prog 138 #[.int .i64 n] w fun e w' => e = .returned (.bool (wi n 1 9999)) ∧ w' = w := by
 go_enter Tryz.func138, Tryz.ntmps138
 go_wp2_with (go_at_call 89; refine (zN _ _ _ _).mono ?_; rintro e w' ⟨rfl, rfl⟩)
 go_ret
 exact ⟨rfl, rfl⟩
def errD : Int → List Int → Int
 | _, [] => 0
 | l, x :: r => if wi x 1 9999 = false then 3 else if x ≤ l then 4 else errD x r
theorem errD_ways (l x : Int) (r : List Int) : (wi x 1 9999 = false ∧ errD l (x :: r) = 3) ∨ (wi x 1 9999 = true ∧ x ≤ l ∧ errD l (x :: r) = 4) ∨ (wi x 1 9999 = true ∧ ¬ x ≤ l ∧ errD l (x :: r) = errD x r) := by
 rw [errD]
 cases wi x 1 9999
 ·simp
 ·by_cases h : x ≤ l <;> simp [h]
theorem drop_cons {α : Type} {L : List α} {q : Nat} {x : α} (h : L[q]? = some x) : L.drop q = x :: L.drop (q + 1) := by
 obtain ⟨h1, h2⟩ := List.getElem?_eq_some_iff.1 h
 rw [List.drop_eq_getElem_cons h1, h2]
theorem checkIds_any (v : Int) (L : List Int) (o : Option Addr) (c : Nat) (w : World) (hL : zF w o L) (hlen : L.length ≤ 12) :
  Calls Tryz.prog 123 #[dn v o L.length c] w fun e w' => e = .returned (.int .i64 (errD 0 L)) ∧ Below w.heap.size w w' := by
 have HL := zA (hL.below ((Below.refl w.heap.size w).alloc (Nat.le_refl _) (.cells #[.int .i64 v, .slice o L.length c] 145)))
 have HB := zA ((Below.refl w.heap.size w).alloc (Nat.le_refl _) (.cells #[.int .i64 v, .slice o L.length c] 145))
 clear hL
 go_enter Tryz.func123, Tryz.ntmps123
 go_wp2_with fail
 generalize w.alloc (.cells #[.int .i64 v, .slice o L.length c] 145) = wa at *
 go_loopw [3, 10] (fun l j wr => ∃ (q : Nat) (x : Int), q ≤ L.length ∧ j = .int .i64 q ∧ l = .int .i64 x ∧ Hid (errD 0 L = errD x (L.drop q)) ∧ wr = wa) (fun _ j _ => L.length - (intOf j).toNat)
 case atStart => exact ⟨0, 0, Nat.zero_le _, rfl, rfl, by show _ = _; simp, rfl⟩
 case round =>
  obtain ⟨q, l, hq, rfl, rfl, hE, hw⟩ := hrel
  subst hw
  by_cases hgo : q < L.length
  ·obtain ⟨x, hx⟩ : ∃ x, L[q]? = some x := ⟨L[q], by simp [hgo]⟩
   obtain ⟨A, rfl, c0⟩ := HL.out q x hx
   have hE' := hE.out
   rw [drop_cons hx] at hE'
   have hp := errD_ways l x (L.drop (q + 1))
   rw [← hE'] at hp
   clear hE hE' hx
   rcases hp with ⟨h1, h3⟩ | ⟨h1, h2, h3⟩ | ⟨h1, h2, h3⟩
   all_goals
    have H3 := zA h3
    clear h3
   ·go_wp2_with (go_at_call 138; refine (isId_any _ _).mono ?_; rintro e w' ⟨rfl, rfl⟩; rw [h1])
    go_ret
    exact ⟨by rw [H3.out]; rfl, HB.out⟩
   ·go_wp2_with (go_at_call 138; refine (isId_any _ _).mono ?_; rintro e w' ⟨rfl, rfl⟩; rw [h1])
    go_ret
    exact ⟨by rw [H3.out]; rfl, HB.out⟩
   ·go_wp2_with (go_at_call 138; refine (isId_any _ _).mono ?_; rintro e w' ⟨rfl, rfl⟩; rw [h1])
    exact ⟨⟨q + 1, x, by omega, by simp, rfl, H3, by first | rfl | trivial⟩, by simp [intOf]; omega⟩
  ·have hE' := hE.out
   rw [List.drop_of_length_le (by omega)] at hE'
   have HE := zA hE'
   clear hE hE'
   go_wp2_with fail
   go_ret
   exact ⟨by rw [HE.out]; rfl, HB.out⟩
def yY (v : Int) (L : List Int) : Int := if wi v 0 999 = false then 3 else if 12 < L.length then 2 else if errD 0 L = 0 then (if v < L.length then 4 else 0) else errD 0 L
theorem chkD_ways (v : Int) (L : List Int) : (wi v 0 999 = false ∧ yY v L = 3) ∨ (wi v 0 999 = true ∧ 12 < L.length ∧ yY v L = 2) ∨ (wi v 0 999 = true ∧ ¬ 12 < L.length ∧ errD 0 L ≠ 0 ∧ yY v L = errD 0 L) ∨
  (wi v 0 999 = true ∧ ¬ 12 < L.length ∧ errD 0 L = 0 ∧ v < L.length ∧ yY v L = 4) ∨ (wi v 0 999 = true ∧ ¬ 12 < L.length ∧ errD 0 L = 0 ∧ ¬ v < L.length ∧ yY v L = 0) := by
 unfold yY
 cases wi v 0 999
 ·simp
 ·by_cases h1 : 12 < L.length
  ·simp [h1]
  ·by_cases h2 : errD 0 L = 0
   ·by_cases h3 : v < L.length <;> simp [h1, h2, h3]
   ·simp [h1, h2]
theorem checkD_any (v : Int) (L : List Int) (o : Option Addr) (c : Nat) (w : World) (hL : zF w o L) (hlen : L.length ≤ 9223372036854775807) :
  Calls Tryz.prog 105 #[dn v o L.length c] w fun e w' => e = .returned (.int .i64 (yY v L)) ∧ Below w.heap.size w w' := by
 have HI := zA (fun W (h : zF W o L) (h' : ¬ 12 < L.length) => checkIds_any v L o c W h (by omega))
 have hBa := (zM.nil w).more (.cells #[.int .i64 v, .slice o L.length c] 145) (by simp)
 have HL := zA hL
 clear hL
 rcases chkD_ways v L with ⟨h1, h4⟩ | ⟨h1, h2, h4⟩ | ⟨h1, h2, h3, h4⟩ | ⟨h1, h2, h3, h5, h4⟩ | ⟨h1, h2, h3, h5, h4⟩
 all_goals
  rw [h4]
  clear h4
  have HBa := zA hBa
  clear hBa
  go_enter Tryz.func105, Tryz.ntmps105
  go_wp2_with (go_at_call 89; refine (zN _ _ _ _).mono ?_; rintro e w' ⟨rfl, rfl⟩; rw [h1])
 ·go_ret
  exact ⟨rfl, HBa.out.2.2⟩
 ·go_ret
  exact ⟨rfl, HBa.out.2.2⟩
 all_goals
  refine (HI.out _ (HL.out.below HBa.out.2.2) h2).mono ?_
  rintro e w1 ⟨rfl, hb⟩
  have HB1 := zA (HBa.out.on hb)
  obtain ⟨c0, c1⟩ := HB1.out.c2 0 w.heap.size rfl rfl rfl rfl
  clear hb HBa
 ·have h3' : (errD 0 L != 0) = true := by simpa using h3
  clear h3
  go_wp2_with fail
  go_ret
  exact ⟨rfl, HB1.out.2.2⟩
 all_goals
  rw [h3]
  clear h3
  go_wp2_with fail
  go_ret
  exact ⟨rfl, HB1.out.2.2⟩
structure DD where
 v : Int
 L : List Int
 o : Option Addr
 c : Nat
def DensAt (w : World) (B : Addr) (Ds : List DD) : Prop := ∀ (q : Nat) (d : DD), Ds[q]? = some d →
 w.cell? (B.add (q * 2)) = some (.int .i64 d.v) ∧ w.cell? ⟨(B.add (q * 2)).block, (B.add (q * 2)).off + 1, none⟩ = some (.slice d.o d.L.length d.c) ∧ zF w d.o d.L ∧ d.L.length ≤ 9223372036854775807
theorem DensAt.below {w w' : World} {B : Addr} {Ds : List DD} (h : DensAt w B Ds) (hb : Below w.heap.size w w') : DensAt w' B Ds :=
 fun q d hq => have ⟨h1, h2, h3, h4⟩ := h q d hq; ⟨by rw [hb.cell (World.block_lt_of_cell? w _ h1)]; exact h1, by rw [hb.cell (World.block_lt_of_cell? w _ h2)]; exact h2, h3.below hb, h4⟩
def wrongE : List DD → Int
 | [] => 0
 | d :: r => if yY d.v d.L = 0 then wrongE r else yY d.v d.L
theorem wrongE_ways (d : DD) (r : List DD) : ((yY d.v d.L != 0) = true ∧ wrongE (d :: r) = yY d.v d.L) ∨ (yY d.v d.L = 0 ∧ wrongE (d :: r) = wrongE r) := by
 rw [wrongE]
 by_cases h : yY d.v d.L = 0
 ·right; simp [h]
 ·left; simp [h]
theorem denWrong_any (Ds : List DD) (B : Addr) (c : Nat) (w : World) (hD : DensAt w B Ds) (hlen : Ds.length ≤ 12) :
  Calls Tryz.prog 84 #[.slice (some B) Ds.length c] w fun e w' => e = .returned (.int .i64 (wrongE Ds)) ∧ Below w.heap.size w w' := by
 have HD := zA hD
 clear hD
 go_enter Tryz.func84, Tryz.ntmps84
 go_wp2_with fail
 go_loopw [8] (fun j wr => ∃ (q : Nat), q ≤ Ds.length ∧ j = .int .i64 q ∧ Hid (wrongE Ds = wrongE (Ds.drop q)) ∧ Hid (Below w.heap.size w wr)) (fun j _ => Ds.length - (intOf j).toNat)
 case atStart => exact ⟨0, Nat.zero_le _, rfl, by show _ = _; simp, Below.refl _ _⟩
 case round =>
  obtain ⟨q, hq, rfl, hE, HB⟩ := hrel
  by_cases hgo : q < Ds.length
  ·obtain ⟨d, hd⟩ : ∃ d, Ds[q]? = some d := ⟨Ds[q], by simp [hgo]⟩
   obtain ⟨c0, c1, h2, h3⟩ := HD.out.below HB.out q d hd
   have HI := zA h2
   clear h2
   have hE' := hE.out
   rw [drop_cons hd] at hE'
   have hp := wrongE_ways d (Ds.drop (q + 1))
   rw [← hE'] at hp
   clear hE hE' hd
   go_wp2_with fail
   have hBa := HB.out.alloc HB.out.size (.cells #[.int .i64 d.v, .slice d.o d.L.length d.c] 28)
   refine (checkD_any d.v d.L d.o d.c _ (HI.out.below ((Below.refl wr.heap.size wr).alloc (Nat.le_refl _) _)) h3).mono ?_
   rintro e w1 ⟨rfl, hb⟩
   have HB1 := zA (hBa.trans (hb.mono hBa.size))
   clear hBa hb c0 c1 HI
   rcases hp with ⟨h5, h6⟩ | ⟨h5, h6⟩
   ·have H6 := zA h6
    clear h6
    generalize yY d.v d.L = E at *
    go_wp2_with fail
    go_ret
    exact ⟨by rw [H6.out]; rfl, HB1.out⟩
   ·have H6 := zA h6
    clear h6
    rw [h5]
    clear h5
    go_wp2_with fail
    exact ⟨⟨q + 1, by omega, by simp, H6, HB1⟩, by simp [intOf]; omega⟩
  ·have hE' := hE.out
   rw [List.drop_of_length_le (by omega)] at hE'
   have H6 := zA hE'
   clear hE hE'
   go_wp2_with fail
   go_ret
   exact ⟨by rw [H6.out]; rfl, HB.out⟩
theorem densAt_one (w : World) (v : Int) (L : List Int) (o : Option Addr) (c b : Nat) (T : TypeId) (hb : w.heap[b]? = some (.cells #[.int .i64 v, .slice o L.length c] T)) (hL : zF w o L) (hl : L.length ≤ 9223372036854775807) :
  DensAt w ⟨b, 0, none⟩ [⟨v, L, o, c⟩] := by
 intro q d hq
 match q, hq with
 | 0, hq =>
  simp at hq
  subst hq
  have c0 := cell_of_row w b 0 _ _ _ hb
  have c1 := cell_of_row w b 1 _ _ _ hb
  simp at c0 c1
  exact ⟨by simpa [Addr.add] using c0, by simpa [Addr.add] using c1, hL, hl⟩
 | q + 1, hq => simp at hq
theorem wrongE_one (d : DD) : wrongE [d] = yY d.v d.L := by
 simp only [wrongE]
 split
 ·rename_i h; exact h.symm
 ·rfl
theorem denWrong1_any (v : Int) (L : List Int) (o : Option Addr) (c b : Nat) (T : TypeId) (w : World) (hb : w.heap[b]? = some (.cells #[.int .i64 v, .slice o L.length c] T)) (hL : zF w o L) (hlen : L.length ≤ 9223372036854775807) :
  Calls Tryz.prog 84 #[.slice (some ⟨b, 0, none⟩) 1 1] w fun e w' => e = .returned (.int .i64 (yY v L)) ∧ Below w.heap.size w w' := by
 have h := denWrong_any [⟨v, L, o, c⟩] ⟨b, 0, none⟩ 1 w (densAt_one w v L o c b T hb hL hlen) (by simp)
 rw [wrongE_one] at h
 exact h
theorem denCheck_any (v : Int) (L : List Int) (o : Option Addr) (c : Nat) (w : World) (hL : zF w o L) (hlen : L.length ≤ 9223372036854775807) :
  Calls Tryz.prog 52 #[dn v o L.length c] w fun e w' => e = .returned (.int .i64 (yY v L)) ∧ Below w.heap.size w w' := by
 have HB := zA (((zM.nil w).more (.cells #[.int .i64 v, .slice o L.length c] 28) (by simp)).more (.cells #[.int .i64 v, .slice o L.length c] 28) (by simp))
 have HL := zA hL
 clear hL
 go_enter Tryz.func52, Tryz.ntmps52
 go_wp2_with fail
 refine (denWrong1_any v L o c _ _ _ (HB.out.1 1 _ rfl) (HL.out.below HB.out.2.2) hlen).mono ?_
 rintro e w1 ⟨rfl, hb⟩
 have HB1 := zA (HB.out.on hb)
 clear hb HB
 go_wp2_with fail
 go_ret
 exact ⟨rfl, HB1.out.2.2⟩
def hasI (L : List Int) (id : Int) : Bool := L.any fun x => x == id
theorem dAdd_add (A : Addr) (n m : Nat) : (A.add n).add m = A.add (n + m) := by
 by_cases h1 : n = 0
 ·subst h1; simp [Addr.add]
 ·by_cases h2 : m = 0
  ·subst h2; simp [Addr.add]
  ·simp [Addr.add, h1, h2]
   omega
theorem zF.drop {w : World} {A : Addr} {L : List Int} (h : zF w (some A) L) (n c : Nat) (hc : L.length ≤ c) : zF w (if c = n then some A else some (A.add n)) (L.drop n) := fun i p hi => by
 rw [List.getElem?_drop] at hi
 have hlt := (List.getElem?_eq_some_iff.1 hi).1
 rw [if_neg (by omega)]
 obtain ⟨b, hb, h6⟩ := h (n + i) p hi
 cases hb
 refine ⟨_, rfl, ?_⟩
 rw [dAdd_add]
 exact h6
theorem chkD_right {v : Int} {L : List Int} (h : yY v L = 0) : 0 ≤ v ∧ v ≤ 999 ∧ L.length ≤ 12 ∧ errD 0 L = 0 ∧ (L.length : Int) ≤ v := by
 rcases chkD_ways v L with h1 | h1 | h1 | h1 | h1
 ·omega
 ·omega
 ·exact absurd (h1.2.2.2.symm.trans h) h1.2.2.1
 ·omega
 ·have := (yH _ _ _).1 h1.1
  exact ⟨this.1, this.2, by omega, h1.2.2.1, by omega⟩
theorem hasInt_any (L : List Int) (id : Int) (o : Option Addr) (c : Nat) (w : World) (hL : zF w o L) (hlen : L.length ≤ 9223372036854775807) :
  Calls Tryz.prog 36 #[.slice o L.length c, .int .i64 id] w fun e w' => e = .returned (.bool (hasI L id)) ∧ w' = w := by
 have HL := zA hL
 clear hL
 go_enter Tryz.func36, Tryz.ntmps36
 go_wp2_with fail
 go_loopw [5] (fun j wr => ∃ (q : Nat), q ≤ L.length ∧ j = .int .i64 q ∧ Hid (hasI (L.take q) id = false) ∧ wr = w) (fun j _ => L.length - (intOf j).toNat)
 case atStart => exact ⟨0, Nat.zero_le _, rfl, by show _ = _; simp [hasI], rfl⟩
 case round =>
  obtain ⟨q, hq, rfl, hF, hw⟩ := hrel
  subst hw
  by_cases hgo : q < L.length
  ·obtain ⟨x, hx⟩ : ∃ x, L[q]? = some x := ⟨L[q], by simp [hgo]⟩
   have HS : Hid (hasI (L.take (q + 1)) id = (x == id)) := by
    show _ = _
    have h0 := hF.out
    unfold hasI at h0 ⊢
    rw [List.take_add_one, hx, Option.toList_some, List.any_append, h0]
    simp
   obtain ⟨A, rfl, c0⟩ := HL.out q x hx
   have HX := zA hx
   clear hx hF
   cases h : (x == id)
   ·rw [h] at HS
    go_wp2_with fail
    exact ⟨⟨q + 1, by omega, by simp, HS, by first | rfl | trivial⟩, by simp [intOf]; omega⟩
   ·have HR : Hid (hasI L id = true) := by
     show _ = _
     unfold hasI
     rw [List.any_eq_true]
     exact ⟨x, List.mem_of_getElem? HX.out, h⟩
    go_wp2_with fail
    go_ret
    exact ⟨by rw [HR.out]; rfl, rfl⟩
  ·have HR : Hid (hasI L id = false) := by
    have h1 := hF.out
    rw [List.take_of_length_le (by omega)] at h1
    exact h1
   clear hF
   go_wp2_with fail
   go_ret
   exact ⟨by rw [HR.out]; rfl, rfl⟩
theorem line1_any (i k f t z r id : Int) (B : Nat) (w : World) (hc : w.cell? ⟨B, 0, none⟩ = some (.int .i64 id)) :
  Calls Tryz.prog 16 #[tk i k f t z r, .pointer (some ⟨B, 0, none⟩)] w fun e w' => e = .returned (.bool (i == id)) ∧ Below w.heap.size w w' := by
 have hlt := World.block_lt_of_cell? w ⟨B, 0, none⟩ hc
 go_enter Tryz.func16, Tryz.ntmps16
 go_wp2_with fail
 go_ret
 exact ⟨rfl, (Below.refl _ _).alloc (Nat.le_refl _) _⟩
theorem indexLine_any (B : Nat) (id : Int) (L : List TK) (o : Option Addr) (cap : Nat) (w : World) (hL : zH w o L) (hlen : L.length ≤ 9223372036854775807) (hc : w.cell? ⟨B, 0, none⟩ = some (.int .i64 id)) :
  Calls Tryz.prog 15 #[.slice o L.length cap, .func (.func 16) #[] #[.pointer (some ⟨B, 0, none⟩)]] w fun e w' => e = .returned (.int .i64 (idxT L id)) ∧ Below w.heap.size w w' := by
 have HL := zA hL
 have hlt := World.block_lt_of_cell? w ⟨B, 0, none⟩ hc
 have HF := zA (fun (x : TK) (W : World) h => line1_any x.i x.k x.f x.t x.z x.r id B W h)
 clear hL
 go_enter Tryz.func15, Tryz.ntmps15
 go_wp2_with fail
 go_loopw [8] (fun j wr => ∃ (q : Nat), q ≤ L.length ∧ j = .int .i64 q ∧ Hid (∀ j, j < q → ∀ p, L[j]? = some p → p.i ≠ id) ∧ Below w.heap.size w wr) (fun j _ => L.length - (intOf j).toNat)
 case atStart => exact ⟨0, Nat.zero_le _, rfl, fun j h => by omega, Below.refl _ _⟩
 case round =>
  obtain ⟨q, hq, rfl, hE, hbr⟩ := hrel
  have c' : wr.cell? ⟨B, 0, none⟩ = some (.int .i64 id) := by rw [hbr.cell (p := ⟨B, 0, none⟩) hlt]; exact hc
  by_cases hgo : q < L.length
  ·obtain ⟨x, hx⟩ : ∃ x, L[q]? = some x := ⟨L[q], by simp [hgo]⟩
   obtain ⟨A, rfl, c0, c1, c2, c3, c4, c5⟩ := (HL.out.below hbr) q x hx
   have HX := zA hx
   clear hx
   go_wp2_with fail
   refine (HF.out x _ c').mono ?_
   rintro e w1 ⟨rfl, hb⟩
   have hbr3 := hbr.trans (hb.mono hbr.size)
   clear hbr hb c'
   cases hg : (x.i == id)
   ·go_wp2_with fail
    refine ⟨⟨q + 1, by omega, by simp, ?_, hbr3⟩, by simp [intOf]; omega⟩
    intro j hj p hp
    rcases Nat.lt_or_ge j q with h | h
    ·exact hE.out j h p hp
    ·have : j = q := by omega
     subst this
     rw [HX.out] at hp
     cases hp
     simpa using hg
   ·have e1 := idxT_some HX.out (by simpa using hg) hE.out
    have H1 := zA e1
    clear e1
    go_wp2_with fail
    go_ret
    exact ⟨by rw [H1.out]; rfl, hbr3⟩
  ·have e1 := idxT_none (L := L) (id := id) (fun j p hp => hE.out j (by have := (List.getElem?_eq_some_iff.1 hp).1; omega) p hp)
   have H1 := zA e1
   clear e1
   go_wp2_with fail
   go_ret
   exact ⟨by rw [H1.out]; rfl, hbr⟩
theorem index_any (L : List Int) (id : Int) (o : Option Addr) (c : Nat) (w : World) (hL : zF w o L) (hlen : L.length ≤ 9223372036854775807) :
  Calls Tryz.prog 55 #[.slice o L.length c, .int .i64 id] w fun e w' => (∃ n : Int, e = .returned (.int .i64 n) ∧ decide (0 ≤ n) = hasI L id) ∧ w' = w := by
 have HL := zA hL
 clear hL
 go_enter Tryz.func55, Tryz.ntmps55
 go_wp2_with fail
 go_loopw [8] (fun j wr => ∃ (q : Nat), q ≤ L.length ∧ j = .int .i64 q ∧ Hid (hasI (L.take q) id = false) ∧ wr = w) (fun j _ => L.length - (intOf j).toNat)
 case atStart => exact ⟨0, Nat.zero_le _, rfl, by show _ = _; simp [hasI], rfl⟩
 case round =>
  obtain ⟨q, hq, rfl, hF, hw⟩ := hrel
  subst hw
  by_cases hgo : q < L.length
  ·obtain ⟨x, hx⟩ : ∃ x, L[q]? = some x := ⟨L[q], by simp [hgo]⟩
   have HS : Hid (hasI (L.take (q + 1)) id = (x == id)) := by
    show _ = _
    have h0 := hF.out
    unfold hasI at h0 ⊢
    rw [List.take_add_one, hx, Option.toList_some, List.any_append, h0]
    simp
   obtain ⟨A, rfl, c0⟩ := HL.out q x hx
   have HX := zA hx
   clear hx hF
   have hsw : (id == x) = (x == id) := by
    by_cases e : id = x
    ·rw [e]
    ·rw [beq_false_of_ne e, beq_false_of_ne (fun h => e h.symm)]
   cases h : (x == id)
   ·rw [h] at HS hsw
    go_wp2_with fail
    go_roundw
    case rel => exact ⟨q + 1, by omega, by go_num, HS, by first | rfl | trivial⟩
    case measure => clear HL HS HX; simp only [intOf]; omega
   ·have HR : Hid (hasI L id = true) := by
     show _ = _
     unfold hasI
     rw [List.any_eq_true]
     exact ⟨x, List.mem_of_getElem? HX.out, h⟩
    rw [h] at hsw
    go_wp2_with fail
    go_ret
    exact ⟨⟨_, rfl, by rw [HR.out]; exact decide_eq_true (by omega)⟩, rfl⟩
  ·have HR : Hid (hasI L id = false) := by
    have h1 := hF.out
    rw [List.take_of_length_le (by omega)] at h1
    exact h1
   clear hF
   go_wp2_with fail
   go_ret
   exact ⟨⟨_, rfl, by rw [HR.out]; exact decide_eq_false (by omega)⟩, rfl⟩
theorem contains_any (L : List Int) (id : Int) (o : Option Addr) (c : Nat) (w : World) (hL : zF w o L) (hlen : L.length ≤ 9223372036854775807) :
  Calls Tryz.prog 22 #[.slice o L.length c, .int .i64 id] w fun e w' => e = .returned (.bool (hasI L id)) ∧ w' = w := by
 go_enter Tryz.func22, Tryz.ntmps22
 go_wp2_with fail
 refine (index_any L id o c w hL hlen).mono ?_
 rintro e w1 ⟨⟨n, rfl, h⟩, hw⟩
 obtain rfl := hw.symm
 have H := zA h
 clear h
 go_wp2_with fail
 go_ret
 exact ⟨by rw [← H.out]; rfl, rfl⟩
def leadB (W : List VW) : List UInt8 := if nowB W = true then itD (nowI W) else [45]
theorem nowI_range {W : List VW} (h : zO W = 0) : 0 ≤ nowI W ∧ nowI W ≤ 1 := by
 unfold nowI
 split
 ·have hn : W ≠ [] := by intro e; rw [e] at h; exact absurd h (by decide)
  have := yB h _ (topW_mem W hn)
  omega
 ·omega
theorem leadB_len {W : List VW} (h : zO W = 0) : (leadB W).length ≤ 20 := by
 have := nowI_range h
 unfold leadB
 split
 ·exact zU (by omega)
 ·simp
theorem leader_any (o : Option Addr) (cap : Nat) (W : List VW) (w : World) (hI : ItoaOk w) (hL : zJ w o W) (h0 : zO W = 0) :
  Calls Tryz.prog 21 #[.slice o W.length cap] w fun e w' => e = .returned (.string ⟨(leadB W).toArray⟩) ∧ Below w.heap.size w w' := by
 have hlen : W.length ≤ 9223372036854775807 := by have := yV h0; omega
 have hr := nowI_range h0
 have HN := zA (now_any o cap W w hL hlen)
 rw [h0] at HN
 have HI := zA hI
 have HLt : Hid (nowB W = true → leadB W = itD (nowI W)) := zA (fun h => by rw [leadB, if_pos h])
 have HLf : Hid (nowB W = false → leadB W = [45]) := zA (fun h => by rw [leadB, if_neg (by simp [h])])
 clear hI hL h0 hlen
 obtain ⟨r0, r1⟩ := hr
 generalize leadB W = lb at *
 generalize nowI W = ni at *
 generalize nowB W = nb at *
 go_enter Tryz.func21, Tryz.ntmps21
 go_wp2_with fail
 refine HN.out.mono ?_
 rintro e w1 ⟨rfl, hb⟩
 have HB := zA hb
 clear hb
 cases nb
 ·go_wp2_with fail
  go_ret
  exact ⟨by rw [HLf.out (by trivial)]; rfl, HB.out⟩
 ·go_wp2_with fail
  refine (HI.out w1 HB.out ni r0 (by omega)).mono ?_
  rintro e w2 ⟨rfl, hb⟩
  have HB2 := trR HB hb
  clear hb
  go_wp2_with fail
  go_ret
  exact ⟨by rw [HLt.out (by trivial)]; rfl, HB2.out⟩
#print axioms contains_any
#print axioms leader_any
#print axioms indexLine_any
abbrev cG (i z s : Int) (oa : Option Addr) (na ca : Nat) (v : Int) (od : Option Addr) (nd cd : Nat) (l u : Int) (T : TypeId) : Obj := .cells #[.int .i64 i, .int .i64 z, .int .i64 s, .slice oa na ca, .int .i64 v, .slice od nd cd, .int .i64 l, .int .i64 u] T
def errS (i z s : Int) (n : Nat) : Int := if (wi i 0 2 && wi s 0 99) = false then 3 else if isZ z = false then 9 else if 12 < n then 2 else 0
theorem checkSelf_any (i z s : Int) (oa : Option Addr) (na ca : Nat) (v : Int) (od : Option Addr) (nd cd : Nat) (l u : Int) (w : World) :
  Calls Tryz.prog 106 #[gtV i z s oa na ca v od nd cd l u] w fun e w' => e = .returned (.int .i64 (errS i z s na)) ∧ Below w.heap.size w w' := by
 generalize hE : errS i z s na = E
 have hp : (wi i 0 2 = false ∧ E = 3) ∨ (wi i 0 2 = true ∧ wi s 0 99 = false ∧ E = 3) ∨ (wi i 0 2 = true ∧ wi s 0 99 = true ∧ isZ z = false ∧ E = 9) ∨ (wi i 0 2 = true ∧ wi s 0 99 = true ∧ isZ z = true ∧ 12 < na ∧ E = 2) ∨ (wi i 0 2 = true ∧ wi s 0 99 = true ∧ isZ z = true ∧ ¬ 12 < na ∧ E = 0) := by
  rw [← hE, errS]
  cases wi i 0 2 <;> cases wi s 0 99 <;> cases isZ z <;> by_cases h : 12 < na <;> simp [h]
 clear hE
 rcases hp with ⟨h1, rfl⟩ | ⟨h1, h2, rfl⟩ | ⟨h1, h2, h3, rfl⟩ | ⟨h1, h2, h3, h4, rfl⟩ | ⟨h1, h2, h3, h4, rfl⟩
 all_goals
  go_enter Tryz.func106, Tryz.ntmps106
  go_wp2_with first | (go_at_call 89; refine (zN _ _ _ _).mono ?_; rintro e w' ⟨rfl, rfl⟩) | (go_at_call 124; refine (oneZone_any _ _).mono ?_; rintro e w' ⟨rfl, rfl⟩)
  go_ret
  exact ⟨by simp, (Below.refl _ _).alloc (Nat.le_refl _) _⟩
theorem owns_any (i z s : Int) (oa : Option Addr) (na ca : Nat) (v : Int) (od : Option Addr) (nd cd : Nat) (l u a g q m y : Int) (w : World) :
  Calls Tryz.prog 125 #[gtV i z s oa na ca v od nd cd l u, tp a g q m y] w fun e w' => e = .returned (.bool (g == i && y == z)) ∧ Below w.heap.size w w' := by
 cases h1 : (g == i)
 all_goals
  go_enter Tryz.func125, Tryz.ntmps125
  go_wp2
  go_ret
  exact ⟨by simp, ((Below.refl _ _).alloc (Nat.le_refl _) _).alloc (by simp) _⟩
def folB (l p : TP) : Bool := decide (l.m ≤ p.m) && (p.s == l.s + 1)
theorem follows_any (l p : TP) (w : World) (h1 : 0 ≤ l.s) (h2 : l.s ≤ 99) :
  Calls Tryz.prog 126 #[tp l.a l.g l.s l.m l.z, tp p.a p.g p.s p.m p.z] w fun e w' => e = .returned (.bool (folB l p)) ∧ Below w.heap.size w w' := by
 unfold folB
 by_cases h : l.m ≤ p.m
 all_goals
  go_enter Tryz.func126, Tryz.ntmps126
  go_wp2
  go_ret
  exact ⟨by first | (simp [h]; done) | (simp; omega), ((Below.refl _ _).alloc (Nat.le_refl _) _).alloc (by simp) _⟩
def errB (l u : Int) : Int := if (wi l 0 9 && wi u 0 10099) = true then 0 else 3
theorem checkBudget_any (i z s : Int) (oa : Option Addr) (na ca : Nat) (v : Int) (od : Option Addr) (nd cd : Nat) (l u : Int) (w : World) :
  Calls Tryz.prog 108 #[gtV i z s oa na ca v od nd cd l u] w fun e w' => e = .returned (.int .i64 (errB l u)) ∧ Below w.heap.size w w' := by
 unfold errB
 cases h1 : wi l 0 9 <;> cases h2 : wi u 0 10099
 all_goals
  simp only [Bool.and_true, Bool.and_false, Bool.false_eq_true, if_false, if_true]
  go_enter Tryz.func108, Tryz.ntmps108
  go_wp2_with (go_at_call 89; refine (zN _ _ _ _).mono ?_; rintro e w' ⟨rfl, rfl⟩)
  go_ret
  exact ⟨by simp, (Below.refl _ _).alloc (Nat.le_refl _) _⟩
theorem ite_of_not {c : Prop} [Decidable c] {a b : Prop} (hc : ¬ c) (hb : b) : if c then a else b := by
 rw [if_neg hc]
 exact hb
def okA (i z : Int) (l : Option TP) (p : TP) : Bool := (p.g == i && p.z == z) && (match l with | none => true | some y => folB y p)
def errA (i z : Int) : Option TP → List TP → Int
 | _, [] => 0
 | l, p :: r => if zS p = 0 then (if okA i z l p = true then errA i z (some p) r else 4) else zS p
theorem errA_ways (i z : Int) (l : Option TP) (p : TP) (r : List TP) : ((zS p != 0) = true ∧ errA i z l (p :: r) = zS p) ∨ (zS p = 0 ∧ okA i z l p = false ∧ errA i z l (p :: r) = 4) ∨ (zS p = 0 ∧ okA i z l p = true ∧ errA i z l (p :: r) = errA i z (some p) r) := by
 rw [errA]
 by_cases h : zS p = 0
 ·right
  cases okA i z l p <;> simp [h]
 ·left; simp [h]
def errQ (s : Int) (A : List TP) : Int := match A.getLast? with
 | none => 0
 | some p => if p.s = s then 0 else 4
def yT (i z s : Int) (A : List TP) : Int := if errA i z none A = 0 then errQ s A else errA i z none A
theorem checkAlone_any (i z s : Int) (oa : Option Addr) (P : List TP) (ca : Nat) (v : Int) (od : Option Addr) (nd cd : Nat) (l u : Int) (w : World) (hP : zD w oa P) (hlen : P.length ≤ 12) :
    Calls Tryz.prog 107 #[gtV i z s oa P.length ca v od nd cd l u] w fun e w' => e = .returned (.int .i64 (yT i z s P)) ∧ Below w.heap.size w w' := by
  have HG := zA ((zM.nil w).more (cG i z s oa P.length ca v od nd cd l u 147) (by simp))
  have HP := zA hP
  have HA : Hid (errA i z none P ≠ 0 → yT i z s P = errA i z none P) := fun h => by rw [yT, if_neg h]
  have HZ : Hid (errA i z none P = 0 → yT i z s P = errQ s P) := fun h => by rw [yT, if_pos h]
  generalize yT i z s P = R at *
  clear hP
  go_enter Tryz.func107, Tryz.ntmps107
  go_wp2_with fail
  go_loopw [11] (fun j wr => ∃ (q : Nat) (y : Option TP), q ≤ P.length ∧ j = .int .i64 q ∧ Hid (errA i z none P = errA i z y (P.drop q) ∧ (q = 0 → y = none) ∧ (∀ k, q = k + 1 → ∃ x, y = some x ∧ P[k]? = some x ∧ 0 ≤ x.s ∧ x.s ≤ 99)) ∧ Hid (zM w wr ([] ++ [cG i z s oa P.length ca v od nd cd l u 147]))) (fun j _ => P.length - (intOf j).toNat)
  case atStart => exact ⟨0, none, Nat.zero_le _, rfl, ⟨by simp, fun _ => rfl, fun k h => by omega⟩, HG⟩
  case round =>
    obtain ⟨q, y, hq, rfl, hE, HB⟩ := hrel
    obtain ⟨x0, x1, x2, x3⟩ := HB.out.c4 0 w.heap.size rfl rfl rfl rfl rfl rfl
    by_cases hgo : q < P.length
    · obtain ⟨p, hp⟩ : ∃ p, P[q]? = some p := ⟨P[q], by simp [hgo]⟩
      obtain ⟨A, rfl, e0, e1, e2, e3, e4⟩ := HP.out.below HB.out.2.2 q p hp
      have HX := zA hp
      have hE' := hE.out.1
      rw [drop_cons hp] at hE'
      have hw := errA_ways i z y p (P.drop (q + 1))
      rw [← hE'] at hw
      clear hE' hp
      go_wp2_with fail
      have HT := zA ((zM.nil wr).more (cP p.a p.g p.s p.m p.z 66) (by simp))
      refine (checkP_any p.a p.g p.s p.m p.z _).mono ?_
      rintro e w2 ⟨rfl, hb⟩
      have HT2 := zA (HT.out.on hb)
      have HB2 := zA (HB.out.on HT2.out.2.2)
      clear hb HT HB x0 x1 x2 x3 e0 e1 e2 e3 e4
      have hk : chkP p.a p.g p.s p.m p.z = zS p := rfl
      rw [hk]
      clear hk
      have HC := zA (fun (h : zS p = 0) => chkP_right (a := p.a) (g := p.g) (s := p.s) (m := p.m) (z := p.z) h)
      generalize zS p = X at *
      rcases hw with ⟨h1, h2⟩ | h1
      · have HR := zA ((HA.out (by rw [h2]; simpa using h1)).trans h2)
        clear h2
        go_wp2_with fail
        go_ret
        exact ⟨by rw [HR.out]; rfl, HB2.out.2.2⟩
      · have hX : X = 0 := by rcases h1 with h | h <;> exact h.1
        subst hX
        have hs := (HC.out rfl).2.2.1
        replace h1 : (okA i z y p = false ∧ errA i z none P = 4) ∨ (okA i z y p = true ∧ errA i z none P = errA i z (some p) (P.drop (q + 1))) := by
          rcases h1 with h | h
          · exact Or.inl h.2
          · exact Or.inr h.2
        clear HC
        go_wp2_with fail
        have x0 := cell_regrown (HB2.out.cell 0 0 w.heap.size _ _ _ rfl rfl rfl)
        have x1 := cell_regrown (HB2.out.cell 0 1 w.heap.size _ _ _ rfl rfl rfl)
        have x2 := cell_regrown (HB2.out.cell 0 2 w.heap.size _ _ _ rfl rfl rfl)
        have x3 := cell_regrown (HB2.out.cell 0 3 w.heap.size _ _ _ rfl rfl rfl)
        have x4 := cell_regrown (HB2.out.cell 0 4 w.heap.size _ _ _ rfl rfl rfl)
        have x5 := cell_regrown (HB2.out.cell 0 5 w.heap.size _ _ _ rfl rfl rfl)
        have x6 := cell_regrown (HB2.out.cell 0 6 w.heap.size _ _ _ rfl rfl rfl)
        have x7 := cell_regrown (HB2.out.cell 0 7 w.heap.size _ _ _ rfl rfl rfl)
        have t0 := cell_regrown (HT2.out.cell 0 0 wr.heap.size _ _ _ rfl rfl rfl)
        have t1 := cell_regrown (HT2.out.cell 0 1 wr.heap.size _ _ _ rfl rfl rfl)
        have t2 := cell_regrown (HT2.out.cell 0 2 wr.heap.size _ _ _ rfl rfl rfl)
        have t3 := cell_regrown (HT2.out.cell 0 3 wr.heap.size _ _ _ rfl rfl rfl)
        have t4 := cell_regrown (HT2.out.cell 0 4 wr.heap.size _ _ _ rfl rfl rfl)
        have cO : ∀ d os, Calls Tryz.prog 125 #[gtV i z s (some A) P.length ca v od nd cd l u, tp p.a p.g p.s p.m p.z] (Sort.grow (redrawn w2 d) os) fun e w'' => e = .returned (.bool (p.g == i && p.z == z)) ∧ ∃ p : Regrown, w'' = Sort.grow (redrawn w2 p.d) p.os :=
          fun d os => Calls.regrown_of (owns_any i z s (some A) P.length ca v od nd cd l u p.a p.g p.s p.m p.z _)
        cases ho : (p.g == i && p.z == z)
        · have h4 : errA i z none P = 4 := by
            rcases h1 with h | h
            · exact h.2
            · simp [okA, ho] at h
          have HR := zA ((HA.out (by rw [h4]; decide)).trans h4)
          clear h1 h4
          rw [ho] at cO
          clear ho
          refine wp_region_quiet_below (by kernel_rfl) (by kernel_rfl) ?_
          iterate 20
            refine wpQuiet_step (fun K hK => ?_)
            try subst hact
            go_simp
            try refine ite_of_not (by intro h; cases h) ?_
            first
              | (generalize hact : ({ tmps := _, defers := _ } : Act) = aa
                 refine hK aa ?_
                 clear hK K)
              | (apply Exists.intro
                 refine ⟨fun _ => ?_, ?_⟩
                 first | exact cO _ _
                 generalize hact : ({ tmps := _, defers := _ } : Act) = aa
                 refine hK aa ?_
                 clear hK K)
          try subst hact
          refine wpQuiet_nil ?_
          intro _ hw'
          obtain ⟨⟨dq, osq⟩, hw''⟩ := hw'
          subst hw''
          have HB3 := zA (HB2.out.on (below_regrown w2 dq osq))
          clear x0 x1 x2 x3 x4 x5 x6 x7 t0 t1 t2 t3 t4 cO HB2 HT2
          go_wp2_with fail
          go_ret
          exact ⟨by rw [HR.out]; rfl, HB3.out.2.2⟩
        · rw [ho] at cO
          have HO := zA ho
          have H1 := zA h1
          clear ho h1
          rcases q with _ | k
          · obtain rfl : y = none := hE.out.2.1 rfl
            have HN : Hid (errA i z none P = errA i z (some p) (P.drop (0 + 1)) ∧ (0 + 1 = 0 → some p = none) ∧ (∀ k, 0 + 1 = k + 1 → ∃ x, some p = some x ∧ P[k]? = some x ∧ 0 ≤ x.s ∧ x.s ≤ 99)) := by
              refine ⟨?_, fun h => by omega, fun k hk => ⟨p, rfl, ?_, by omega, by omega⟩⟩
              · rcases H1.out with h | h
                · simp [okA, HO.out] at h
                · exact h.2
              · obtain rfl : k = 0 := by omega
                exact HX.out
            clear H1 HO hE
            refine wp_region_quiet_below (by kernel_rfl) (by kernel_rfl) ?_
            iterate 20
              refine wpQuiet_step (fun K hK => ?_)
              try subst hact
              go_simp
              try refine ite_of_not (by intro h; cases h) ?_
              first
                | (generalize hact : ({ tmps := _, defers := _ } : Act) = aa
                   refine hK aa ?_
                   clear hK K)
                | (apply Exists.intro
                   refine ⟨fun _ => ?_, ?_⟩
                   first | exact cO _ _
                   generalize hact : ({ tmps := _, defers := _ } : Act) = aa
                   refine hK aa ?_
                   clear hK K)
            try subst hact
            refine wpQuiet_nil ?_
            intro _ hw'
            obtain ⟨⟨dq, osq⟩, hw''⟩ := hw'
            subst hw''
            have HB3 := zA (HB2.out.on (below_regrown w2 dq osq))
            clear x0 x1 x2 x3 x4 x5 x6 x7 t0 t1 t2 t3 t4 cO HB2 HT2
            go_wp2_with fail
            exact ⟨⟨0 + 1, some p, by omega, by simp, HN, HB3⟩, by simp [intOf]; omega⟩
          · obtain ⟨x, rfl, hx, hs0, hs1⟩ := hE.out.2.2 k rfl
            obtain ⟨A', hA', f0, f1, f2, f3, f4⟩ := HP.out.below HB2.out.2.2 k x hx
            cases hA'
            have y0 := cell_regrown f0
            have y1 := cell_regrown f1
            have y2 := cell_regrown f2
            have y3 := cell_regrown f3
            have y4 := cell_regrown f4
            have cF : ∀ d os, Calls Tryz.prog 126 #[tp x.a x.g x.s x.m x.z, tp p.a p.g p.s p.m p.z] (Sort.grow (redrawn w2 d) os) fun e w'' => e = .returned (.bool (folB x p)) ∧ ∃ p : Regrown, w'' = Sort.grow (redrawn w2 p.d) p.os :=
              fun d os => Calls.regrown_of (follows_any x p _ hs0 hs1)
            have HX' := zA hx
            clear f0 f1 f2 f3 f4 hx
            have hwk : IntKind.i64.wrap (k : Int) = (k : Int) := by rw [IntKind.wrap_i64]; omega
            have hk0 : (0 : Int) ≤ (k : Int) := by omega
            have hkl : (k : Int) < (P.length : Int) := by omega
            cases hf : folB x p
            all_goals
              rw [hf] at cF
              have HF := zA hf
              clear hf
            · have h4 : errA i z none P = 4 := by
                rcases H1.out with h | h
                · exact h.2
                · simp [okA, HO.out, HF.out] at h
              have HR := zA ((HA.out (by rw [h4]; decide)).trans h4)
              clear H1 HO h4 hE HF
              refine wp_region_quiet_below (by kernel_rfl) (by kernel_rfl) ?_
              iterate 20
                refine wpQuiet_step (fun K hK => ?_)
                try subst hact
                go_simp
                try refine ite_of_not (by intro h; cases h) ?_
                first
                  | (generalize hact : ({ tmps := _, defers := _ } : Act) = aa
                     refine hK aa ?_
                     clear hK K)
                  | (apply Exists.intro
                     refine ⟨fun _ => ?_, ?_⟩
                     first | exact cO _ _ | exact cF _ _
                     generalize hact : ({ tmps := _, defers := _ } : Act) = aa
                     refine hK aa ?_
                     clear hK K)
              try subst hact
              refine wpQuiet_nil ?_
              intro _ hw'
              obtain ⟨⟨dq, osq⟩, hw''⟩ := hw'
              subst hw''
              have HB3 := zA (HB2.out.on (below_regrown w2 dq osq))
              clear x0 x1 x2 x3 x4 x5 x6 x7 t0 t1 t2 t3 t4 cO cF HB2 HT2
              go_wp2_with fail
              go_ret
              exact ⟨by rw [HR.out]; rfl, HB3.out.2.2⟩
            · have HN : Hid (errA i z none P = errA i z (some p) (P.drop (k + 1 + 1)) ∧ (k + 1 + 1 = 0 → some p = none) ∧ (∀ j, k + 1 + 1 = j + 1 → ∃ x, some p = some x ∧ P[j]? = some x ∧ 0 ≤ x.s ∧ x.s ≤ 99)) := by
                refine ⟨?_, fun h => by omega, fun j hj => ⟨p, rfl, ?_, by omega, by omega⟩⟩
                · rcases H1.out with h | h
                  · simp [okA, HO.out, HF.out] at h
                  · exact h.2
                · obtain rfl : j = k + 1 := by omega
                  exact HX.out
              clear H1 HO hE
              refine wp_region_quiet_below (by kernel_rfl) (by kernel_rfl) ?_
              iterate 20
                refine wpQuiet_step (fun K hK => ?_)
                try subst hact
                go_simp
                try refine ite_of_not (by intro h; cases h) ?_
                first
                  | (generalize hact : ({ tmps := _, defers := _ } : Act) = aa
                     refine hK aa ?_
                     clear hK K)
                  | (apply Exists.intro
                     refine ⟨fun _ => ?_, ?_⟩
                     first | exact cO _ _ | exact cF _ _
                     generalize hact : ({ tmps := _, defers := _ } : Act) = aa
                     refine hK aa ?_
                     clear hK K)
              try subst hact
              refine wpQuiet_nil ?_
              intro _ hw'
              obtain ⟨⟨dq, osq⟩, hw''⟩ := hw'
              subst hw''
              have HB3 := zA (HB2.out.on (below_regrown w2 dq osq))
              clear x0 x1 x2 x3 x4 x5 x6 x7 t0 t1 t2 t3 t4 cO cF HB2 HT2
              go_wp2_with fail
              exact ⟨⟨k + 1 + 1, some p, by omega, by simp, HN, HB3⟩, by simp [intOf]; omega⟩
    · have hE' := hE.out.1
      rw [List.drop_of_length_le (by omega)] at hE'
      have HR := zA (HZ.out hE')
      clear hE' hE
      rcases hn : P.length with _ | n
      · have hL0 : P = [] := List.eq_nil_of_length_eq_zero hn
        subst hL0
        have H0 : Hid (errQ s [] = 0) := rfl
        simp only [List.length_nil] at x3 HB hq hgo ⊢
        obtain rfl : q = 0 := by omega
        go_wp2_with fail
        go_region
        go_wp2_with fail
        go_ret
        exact ⟨by rw [HR.out, H0.out]; rfl, (HB.out.on (Below.refl _ _).drew).2.2⟩
      · obtain ⟨x, hx⟩ : ∃ x, P[n]? = some x := ⟨P[n]'(by omega), by simp [hn]⟩
        have HQ : Hid (errQ s P = if x.s = s then 0 else 4) := by
          show _ = _
          rw [errQ, List.getLast?_eq_getElem?, hn, Nat.add_sub_cancel, hx]
        obtain ⟨A, rfl, e0, e1, e2, e3, e4⟩ := HP.out.below HB.out.2.2 n x hx
        clear hx
        rw [hn] at x3 hq hgo hlen HB
        obtain rfl : q = n + 1 := by omega
        by_cases hs : x.s = s
        · have h0 : (x.s != s) = false := by simpa using hs
          have HF := zA (HR.out.trans (HQ.out.trans (if_pos hs)))
          clear hs
          go_wp2_with fail
          go_region
          go_wp2_with fail
          go_ret
          exact ⟨by rw [HF.out]; rfl, (HB.out.on (Below.refl _ _).drew).2.2⟩
        · have h0 : (x.s != s) = true := by simpa using hs
          have HF := zA (HR.out.trans (HQ.out.trans (if_neg hs)))
          clear hs
          go_wp2_with fail
          go_region
          go_wp2_with fail
          go_ret
          exact ⟨by rw [HF.out]; rfl, (HB.out.on (Below.refl _ _).drew).2.2⟩
def chkG (i z s : Int) (P : List TP) (v : Int) (D : List Int) (l u : Int) : Int := if errS i z s P.length = 0 then (if yT i z s P = 0 then (if yY v D = 0 then errB l u else yY v D) else yT i z s P) else errS i z s P.length
theorem chkG_ways (i z s : Int) (P : List TP) (v : Int) (D : List Int) (l u : Int) : ((errS i z s P.length != 0) = true ∧ chkG i z s P v D l u = errS i z s P.length) ∨ (errS i z s P.length = 0 ∧ (yT i z s P != 0) = true ∧ chkG i z s P v D l u = yT i z s P) ∨
  (errS i z s P.length = 0 ∧ yT i z s P = 0 ∧ (yY v D != 0) = true ∧ chkG i z s P v D l u = yY v D) ∨ (errS i z s P.length = 0 ∧ yT i z s P = 0 ∧ yY v D = 0 ∧ chkG i z s P v D l u = errB l u) := by
 rw [chkG]
 by_cases h1 : errS i z s P.length = 0
 ·by_cases h2 : yT i z s P = 0
  ·by_cases h3 : yY v D = 0
   ·simp [h1, h2, h3]
   ·simp [h1, h2, h3]
  ·simp [h1, h2]
 ·simp [h1]
theorem errS_right {i z s : Int} {n : Nat} (h : errS i z s n = 0) : (0 ≤ i ∧ i ≤ 2) ∧ (0 ≤ s ∧ s ≤ 99) ∧ isZ z = true ∧ n ≤ 12 := by
 rw [errS] at h
 split at h
 ·cases h
 ·rename_i h1
  split at h
  ·cases h
  ·rename_i h2
   split at h
   ·cases h
   ·rename_i h3
    have h1' : (wi i 0 2 && wi s 0 99) = true := by simpa using h1
    rw [Bool.and_eq_true, yH, yH] at h1'
    exact ⟨h1'.1, h1'.2, by simpa using h2, by omega⟩
theorem gateCheck_any (i z s : Int) (oa : Option Addr) (P : List TP) (ca : Nat) (v : Int) (od : Option Addr) (D : List Int) (cd : Nat) (l u : Int) (w : World) (hP : zD w oa P) (hD : zF w od D) (hlD : D.length ≤ 9223372036854775807) :
  Calls Tryz.prog 85 #[gtV i z s oa P.length ca v od D.length cd l u] w fun e w' => e = .returned (.int .i64 (chkG i z s P v D l u)) ∧ Below w.heap.size w w' := by
 have HS := zA (fun W => checkSelf_any i z s oa P.length ca v od D.length cd l u W)
 have HA := zA (fun W (h0 : errS i z s P.length = 0) (h : zD W oa P) => checkAlone_any i z s oa P ca v od D.length cd l u W h (errS_right h0).2.2.2)
 have HC := zA (fun W (h : zF W od D) => denCheck_any v D od cd W h hlD)
 have HU := zA (fun W => checkBudget_any i z s oa P.length ca v od D.length cd l u W)
 have HP := zA hP
 have HD := zA hD
 have hp := chkG_ways i z s P v D l u
 generalize chkG i z s P v D l u = E at *
 generalize errS i z s P.length = X1 at *
 generalize yT i z s P = X2 at *
 generalize yY v D = X3 at *
 generalize errB l u = X4 at *
 clear hP hD
 rcases hp with ⟨h1, rfl⟩ | ⟨rfl, h1, rfl⟩ | ⟨rfl, rfl, h1, rfl⟩ | ⟨rfl, rfl, rfl, rfl⟩
 all_goals
  go_enter Tryz.func85, Tryz.ntmps85
  go_wp2_with fail
  have HG1 := zA (((zM.nil w).more (.cells #[.int .i64 i, .int .i64 z, .int .i64 s, .slice oa P.length ca, .int .i64 v, .slice od D.length cd, .int .i64 l, .int .i64 u] 47) (by simp)).more (.cells #[.int .i64 i, .int .i64 z, .int .i64 s, .slice oa P.length ca, .int .i64 v, .slice od D.length cd, .int .i64 l, .int .i64 u] 147) (by simp))
  refine (HS.out _).mono ?_
  rintro e w1 ⟨rfl, hb⟩
  have HG1w1 := zA (HG1.out.on hb)
  clear hb HG1
  have lG1_0 := HG1w1.out.lt 0 w.heap.size (by simp) rfl
  obtain ⟨cG1_0_0, cG1_0_1, cG1_0_2, cG1_0_3, cG1_0_4, cG1_0_5, cG1_0_6, cG1_0_7⟩ := HG1w1.out.c8 0 w.heap.size rfl rfl rfl rfl rfl rfl rfl rfl rfl rfl
  have lG1_1 := HG1w1.out.lt 1 (w.heap.size + 1) (by simp) rfl
  obtain ⟨cG1_1_0, cG1_1_1, cG1_1_2, cG1_1_3, cG1_1_4, cG1_1_5, cG1_1_6, cG1_1_7⟩ := HG1w1.out.c8 1 (w.heap.size + 1) rfl rfl rfl rfl rfl rfl rfl rfl rfl rfl
  go_wp2_with fail
 ·go_ret
  exact ⟨rfl, HG1w1.out.2.2⟩
 all_goals
  refine (HA.out _ trivial (HP.out.below HG1w1.out.2.2)).mono ?_
  rintro e w2 ⟨rfl, hb⟩
  have HG1w2 := zA (HG1w1.out.on hb)
  clear lG1_0 cG1_0_0 cG1_0_1 cG1_0_2 cG1_0_3 cG1_0_4 cG1_0_5 cG1_0_6 cG1_0_7 lG1_1 cG1_1_0 cG1_1_1 cG1_1_2 cG1_1_3 cG1_1_4 cG1_1_5 cG1_1_6 cG1_1_7
  clear hb HG1w1
  have lG1_0 := HG1w2.out.lt 0 w.heap.size (by simp) rfl
  obtain ⟨cG1_0_0, cG1_0_1, cG1_0_2, cG1_0_3, cG1_0_4, cG1_0_5, cG1_0_6, cG1_0_7⟩ := HG1w2.out.c8 0 w.heap.size rfl rfl rfl rfl rfl rfl rfl rfl rfl rfl
  have lG1_1 := HG1w2.out.lt 1 (w.heap.size + 1) (by simp) rfl
  obtain ⟨cG1_1_0, cG1_1_1, cG1_1_2, cG1_1_3, cG1_1_4, cG1_1_5, cG1_1_6, cG1_1_7⟩ := HG1w2.out.c8 1 (w.heap.size + 1) rfl rfl rfl rfl rfl rfl rfl rfl rfl rfl
  go_wp2_with fail
 ·go_ret
  exact ⟨rfl, HG1w2.out.2.2⟩
 all_goals
  refine (HC.out _ (HD.out.below HG1w2.out.2.2)).mono ?_
  rintro e w3 ⟨rfl, hb⟩
  have HG1w3 := zA (HG1w2.out.on hb)
  clear lG1_0 cG1_0_0 cG1_0_1 cG1_0_2 cG1_0_3 cG1_0_4 cG1_0_5 cG1_0_6 cG1_0_7 lG1_1 cG1_1_0 cG1_1_1 cG1_1_2 cG1_1_3 cG1_1_4 cG1_1_5 cG1_1_6 cG1_1_7
  clear hb HG1w2
  have lG1_0 := HG1w3.out.lt 0 w.heap.size (by simp) rfl
  obtain ⟨cG1_0_0, cG1_0_1, cG1_0_2, cG1_0_3, cG1_0_4, cG1_0_5, cG1_0_6, cG1_0_7⟩ := HG1w3.out.c8 0 w.heap.size rfl rfl rfl rfl rfl rfl rfl rfl rfl rfl
  have lG1_1 := HG1w3.out.lt 1 (w.heap.size + 1) (by simp) rfl
  obtain ⟨cG1_1_0, cG1_1_1, cG1_1_2, cG1_1_3, cG1_1_4, cG1_1_5, cG1_1_6, cG1_1_7⟩ := HG1w3.out.c8 1 (w.heap.size + 1) rfl rfl rfl rfl rfl rfl rfl rfl rfl rfl
  go_wp2_with fail
 ·go_ret
  exact ⟨rfl, HG1w3.out.2.2⟩
 ·refine (HU.out _).mono ?_
  rintro e w4 ⟨rfl, hb⟩
  have HG1w4 := zA (HG1w3.out.on hb)
  clear lG1_0 cG1_0_0 cG1_0_1 cG1_0_2 cG1_0_3 cG1_0_4 cG1_0_5 cG1_0_6 cG1_0_7 lG1_1 cG1_1_0 cG1_1_1 cG1_1_2 cG1_1_3 cG1_1_4 cG1_1_5 cG1_1_6 cG1_1_7
  clear hb HG1w3
  go_wp2_with fail
  go_ret
  exact ⟨rfl, HG1w4.out.2.2⟩
theorem wp_append_row {P : Program} {w : World} {o : Oper} {a : Act} {K : Act → World → Prop} {Q : Exit → Act → World → Prop} (s x : Operand) (t : TypeId)
  (ho : o.op = .call { callee := .builtin .append, args := #[s, x], argTypes := #[t, t] })
  (base : Nat) (e : TypeId) (i : TypeInfo) (z : Value) (size bytes : Nat) (ht : P.underlying t = some (.slice e)) (hi : P.info? e = some i) (hz : i.zero = some z)
  (hsize : i.size = size) (hby : i.bytes = bytes) (hzs : z.cells.size = size) (hsz : 0 < size)
  (v : Value) (n : Nat) (xs : List Value) (hs : a.eval s = v) (hown : w.ownsRow base e size v n xs)
  (ox : Option Addr) (m c : Nat) (news : List Value) (hx : a.eval x = .slice ox m c) (hl : news.length = m * size) (hnews : ∀ ad, ox = some ad → ∀ j u, news[j]? = some u → w.cell? (ad.add j) = some u) (h1 : ∀ u ∈ news, u.oneCell' = true)
  (hnone : ox = none → m = 0 ∧ c = 0) (h63 : n + m ≤ maxLen) (hbytes : (n + m) * bytes ≤ 140737488355328) (hbase : base ≤ w.heap.size)
  (h : ∀ v' w', w'.ownsRow base e size v' (n + m) (xs ++ news) → w.grownBy w' v.ownBlock → K (a.put o.dst v') w') : o.wp P a w K Q := by
 cases ox with
 | none =>
  obtain ⟨rfl, rfl⟩ := hnone rfl
  have hrun := run_append_owned_none (P := P) (w := w) base t o.type e i size ht hi v n xs hown
  have hn : news = [] := by
   apply List.eq_nil_of_length_eq_zero
   rw [hl, Nat.zero_mul]
  unfold Oper.wp
  simp [execOp, ho, resolve, invoke, builtin, hs, hx, hrun, Result.andThen]
  refine h v w ?_ ⟨rfl, rfl, rfl, Nat.le_refl _, fun _ _ _ => rfl⟩
  rw [hn, List.append_nil, Nat.add_zero]
  exact hown
 | some ad =>
  obtain ⟨v', w', hr, h2, h3, _, _⟩ := run_append_own_at (P := P) w base t o.type e i z size bytes ht hi hz hsize hby hzs hsz v n xs hown ad m c news hl (hnews ad rfl) h1 h63 hbytes hbase
  unfold Oper.wp execOp
  simp only [ho, resolve, invoke, builtin, Sem.run_bind, Sem.run_pure, Result.andThen_ok, List.map_toArray, List.map_cons, List.map_nil, hs, hx, hr]
  exact h v' w' h2 h3
theorem ownsRow_block {w : World} {base : Nat} {e : TypeId} {size : Nat} {v : Value} {n : Nat} {xs : List Value} (h : w.ownsRow base e size v n xs) : ∀ g, v.ownBlock = some g → base ≤ g ∧ ∃ cur, w.heap[g]? = some (.cells cur e (0, 0)) := by
 intro g hg
 rcases h.2 with ⟨rfl, -⟩ | ⟨g', c, cur, rfl, h1, h2, -⟩
 ·cases hg
 ·simp only [Value.ownBlock, Option.some.injEq] at hg
  subst hg
  exact ⟨h1, cur, h2⟩
theorem ownsRow_far {w w' : World} {base : Nat} {e : TypeId} {size : Nat} {v : Value} {n : Nat} {xs : List Value} {row : Option Nat} (h : w.ownsRow base e size v n xs) (hg : w.grownBy w' row) (hne : ∀ g cur, row = some g → w.heap[g]? ≠ some (.cells cur e (0, 0))) : w'.ownsRow base e size v n xs := by
 refine ⟨h.1, ?_⟩
 rcases h.2 with h' | ⟨g, c, cur, rfl, h1, h2, h3⟩
 ·exact Or.inl h'
 ·refine Or.inr ⟨g, c, cur, rfl, h1, ?_, h3⟩
  have hlt : g < w.heap.size := by
   rcases Nat.lt_or_ge g w.heap.size with h | h
   ·exact h
   ·rw [Array.getElem?_eq_none h] at h2; cases h2
  rw [hg.block g hlt (fun hh => hne g cur hh.symm h2)]
  exact h2
theorem yP {w w' : World} {base : Nat} {e : TypeId} {size : Nat} {v : Value} {n : Nat} {xs : List Value} (h : w.ownsRow base e size v n xs) (hb : Below w.heap.size w w') : w'.ownsRow base e size v n xs :=
 ownsRow_far h (row := none) ⟨hb.os, hb.tape, hb.output, hb.size, fun k hk _ => hb.block k hk⟩ (fun _ _ h => by cases h)
theorem cellsW_cons (p : VW) (L : List VW) : zP (p :: L) = .int .i64 p.e :: .int .i64 p.l :: .bool p.u :: zP L := rfl
theorem cellsW_set (L : List VW) (q : Nat) (x : VW) : (((zP L).set (q * 3) (.int .i64 x.e)).set (q * 3 + 1) (.int .i64 x.l)).set (q * 3 + 2) (.bool x.u) = zP (L.set q x) := by
 induction L generalizing q with
 | nil => simp [zP]
 | cons p L ih =>
  cases q with
  | zero => simp [cellsW_cons]
  | succ q =>
   rw [show (q + 1) * 3 = q * 3 + 1 + 1 + 1 by omega, show q * 3 + 1 + 1 + 1 + 1 = (q * 3 + 1) + 1 + 1 + 1 by omega, show q * 3 + 1 + 1 + 1 + 2 = (q * 3 + 2) + 1 + 1 + 1 by omega]
   simp only [cellsW_cons, List.set_cons_succ]
   rw [ih q]
theorem cellsW_up (L : List VW) (q : Nat) (u : Bool) (hq : q < L.length) : (zP L).set (q * 3 + 2) (.bool u) = zP (L.modify q fun v => ⟨v.e, v.l, u⟩) := by
 induction L generalizing q with
 | nil => simp at hq
 | cons p L ih =>
  cases q with
  | zero => simp [cellsW_cons]
  | succ q =>
   rw [show (q + 1) * 3 + 2 = (q * 3 + 2) + 1 + 1 + 1 by omega]
   simp only [cellsW_cons, List.set_cons_succ, List.modify_succ_cons]
   rw [ih q (by simpa using hq)]
theorem cloneO_any (L : List VW) (A : Addr) (cap : Nat) (w : World) (hL : zJ w (some A) L) (hlen : L.length ≤ 60) (h0 : 0 < L.length) :
  Calls Tryz.prog 65 #[.slice (some A) L.length cap] w fun e w' => (∃ g c, e = .returned (.slice (some ⟨g, 0, none⟩) L.length c) ∧ w.heap.size ≤ g ∧ w'.ownsRow w.heap.size 109 3 (.slice (some ⟨g, 0, none⟩) L.length c) L.length (zP L)) ∧ Below w.heap.size w w' := by
 obtain ⟨i0, hi, hz0, hz1, hz2⟩ := info_parts infoVw
 have q : ∀ (w : World) (a : Option Addr) (n c n' c' : Nat), (binOp .eql 30 (.slice a n c) (.slice none n' c')).run Tryz.prog w = .ok (.bool a.isNone) w := fun w a n c n' c' => Lib.run_eql_slice_nil w _ _ a n c n' c' Tryz.underlying30
 have HN := zA (vws_cells (hL.below ((Below.refl w.heap.size w).alloc (Nat.le_refl _) (.cells #[] 109))))
 have HO := zA (World.ownsRow_made (base := w.heap.size) (e := 109) (size := 3) w #[] 0 (Nat.le_refl _) (by decide) rfl)
 clear hL
 go_enter Tryz.func65, Tryz.ntmps65
 go_wp2_with (at_builtin; refine wpList_append_own _ rfl _ _ 30 rfl w.heap.size 109 i0 _ 3 24 Tryz.underlying30 hi hz0 hz1 hz2 rfl (by decide) _ 0 _ rfl HO.out A L.length cap (zP L) rfl (cellsW_len L) HN.out (oneW L) (by unfold maxLen; omega) (by omega) (by simp) ?_; intro v1 w1 hown1 hgrow1 _)
 go_ret
 refine ⟨?_, ((Below.refl w.heap.size w).alloc (Nat.le_refl _) _).grown hgrow1 (by simp) (fun k hk => (HO.out.lt k hk).1)⟩
 have hn : 0 + L.length = L.length := by omega
 rw [hn] at hown1
 rcases hown1.2 with ⟨-, h⟩ | ⟨g, c, cur, rfl, hg, -⟩
 ·omega
 ·exact ⟨g, c, rfl, hg, hown1⟩
theorem Below.own {w w' : World} {g : Nat} (h : w.grownBy w' (some g)) {B : Nat} {w0 : World} (hb : Below B w0 w) (hB : B ≤ w.heap.size) (hg : B ≤ g) : Below B w0 w' :=
 hb.grown h hB (fun k hk => by cases hk; exact hg)
theorem prom_step {L : List VW} {q : Nat} {p : VW} (e who : Int) (h : L[q]? = some p) :
  promW (L.take (q + 1)) e who ++ L.drop (q + 1) = (promW (L.take q) e who ++ L.drop q).set q (if p.u = true then ⟨e, who, true⟩ else p) := by
 have hq := (List.getElem?_eq_some_iff.1 h).1
 rw [List.take_add_one, h, Option.toList_some, dropW h]
 simp only [promW, List.map_append, List.map_cons, List.map_nil, List.append_assoc, List.cons_append, List.nil_append]
 rw [List.set_append_right _ _ (by simp; omega)]
 have : q - ((L.take q).map fun v => if v.u = true then (⟨e, who, true⟩ : VW) else v).length = 0 := by simp; omega
 rw [this]
 rfl
theorem prom_at {L : List VW} {q : Nat} {p : VW} (e who : Int) (h : L[q]? = some p) : (promW (L.take q) e who ++ L.drop q)[q]? = some p := by
 have hq := (List.getElem?_eq_some_iff.1 h).1
 rw [List.getElem?_append_right (by simp [promW]; omega)]
 have : q - (promW (L.take q) e who).length = 0 := by simp [promW]; omega
 rw [this, dropW h]
 rfl
theorem promised_any (L : List VW) (A : Addr) (cap : Nat) (e who : Int) (w : World) (hL : zJ w (some A) L) (hlen : L.length ≤ 60) (h0 : 0 < L.length) :
  Calls Tryz.prog 67 #[.slice (some A) L.length cap, .int .i64 e, .int .i64 who] w fun x w' => (∃ v, x = .returned v ∧ VwsV w' v (promW L e who) ∧ yD w.heap.size v) ∧ Below w.heap.size w w' := by
 have HC := zA (cloneO_any L A cap w hL hlen h0)
 obtain ⟨R, hR⟩ : ∃ R, R = promW L e who := ⟨_, rfl⟩
 rw [← hR]
 have HR := zA hR
 clear hL hR
 go_enter Tryz.func67, Tryz.ntmps67
 go_wp2_with fail
 refine HC.out.mono ?_
 rintro x w1 ⟨⟨g, c, rfl, hg, hown⟩, hb⟩
 have HO := zA hown
 have HB := zA hb
 clear hown hb HC
 go_wp2_with fail
 go_loopw [14] (fun j wr => ∃ (q : Nat), q ≤ L.length ∧ j = .int .i64 q ∧ Hid (wr.ownsRow w.heap.size 109 3 (.slice (some ⟨g, 0, none⟩) L.length c) L.length (zP (promW (L.take q) e who ++ L.drop q))) ∧ Hid (Below w.heap.size w wr)) (fun j _ => L.length - (intOf j).toNat)
 case atStart => exact ⟨0, Nat.zero_le _, rfl, by simpa [promW] using HO, HB⟩
 case round =>
  obtain ⟨q, hq, rfl, hO, hB⟩ := hrel
  by_cases hgo : q < L.length
  ·obtain ⟨p, hp⟩ : ∃ p, L[q]? = some p := ⟨L[q], by simp [hgo]⟩
   have HS := zA (prom_step e who hp)
   have HA := zA (yU _ _ _ (prom_at e who hp))
   generalize hM : promW (L.take q) e who ++ L.drop q = M at *
   clear hM
   have hcell : ∀ j, j < 3 → wr.cell? ⟨g, q * 3 + j, none⟩ = [Value.int .i64 p.e, .int .i64 p.l, .bool p.u][j]? := fun j hj => by rw [hO.out.cellAt _ (by omega)]; exact HA.out j hj
   have c0 : wr.cell? ⟨g, q * 3, none⟩ = some (.int .i64 p.e) := hcell 0 (by decide)
   have c1 : wr.cell? ⟨g, q * 3 + 1, none⟩ = some (.int .i64 p.l) := hcell 1 (by decide)
   have c2 : wr.cell? ⟨g, q * 3 + 2, none⟩ = some (.bool p.u) := hcell 2 (by decide)
   clear hcell hp
   have hgl := World.block_lt_of_cell? wr _ c0
   go_upto_region 5 with fail
   have hba := (Below.refl wr.heap.size wr).alloc (Nat.le_refl _) (.cells #[.int .i64 p.e, .int .i64 p.l, .bool p.u] 109)
   have HOa := zA (yP hO.out hba)
   have HBa := zA (hB.out.trans (hba.mono hB.out.size))
   have k0 := (cell_of_row (wr.alloc (.cells #[.int .i64 p.e, .int .i64 p.l, .bool p.u] 109)) wr.heap.size 2 _ _ _ (heap_alloc_new wr _))
   have hsz : (wr.alloc (.cells #[.int .i64 p.e, .int .i64 p.l, .bool p.u] 109)).heap.size = wr.heap.size + 1 := by simp
   clear hba c0 c1 c2 hO hB
   generalize wr.alloc _ = wa at *
   obtain ⟨pe, pl, pu⟩ := p
   simp only [] at *
   have k2 : wa.cell? ⟨wr.heap.size, 2, none⟩ = some (.bool pu) := k0
   clear k0
   have hga : g < wa.heap.size := by omega
   have z0 := HOa.out.frozenAt (q * 3)
   have z1 := HOa.out.frozenAt (q * 3 + 1)
   have z2 := HOa.out.frozenAt (q * 3 + 2)
   have hcell : ∀ j, j < 3 → wa.cell? ⟨g, q * 3 + j, none⟩ = [Value.int .i64 pe, .int .i64 pl, .bool pu][j]? := fun j hj => by rw [HOa.out.cellAt _ (by omega)]; exact HA.out j hj
   have c0 : wa.cell? ⟨g, q * 3, none⟩ = some (.int .i64 pe) := hcell 0 (by decide)
   have c1 : wa.cell? ⟨g, q * 3 + 1, none⟩ = some (.int .i64 pl) := hcell 1 (by decide)
   have c2 : wa.cell? ⟨g, q * 3 + 2, none⟩ = some (.bool pu) := hcell 2 (by decide)
   clear hcell
   cases pu
   ·have HM : Hid (promW (L.take (q + 1)) e who ++ L.drop (q + 1) = M) := by
     show _ = _
     rw [HS.out, if_neg (by decide)]
     have hM1 : M[q]? = some ⟨pe, pl, false⟩ := by
      have hl : q < M.length := by have h1 := (HOa.out).1; rw [cellsW_len] at h1; omega
      obtain ⟨y, hy⟩ : ∃ y, M[q]? = some y := ⟨M[q], by simp [hl]⟩
      have e0 := (yU M q y hy 0 (by decide)).symm.trans (HA.out 0 (by decide))
      have e1 := (yU M q y hy 1 (by decide)).symm.trans (HA.out 1 (by decide))
      have e2 := (yU M q y hy 2 (by decide)).symm.trans (HA.out 2 (by decide))
      simp at e0 e1 e2
      obtain ⟨y0, y1, y2⟩ := y
      simp only [] at e0 e1 e2
      subst e0 e1 e2
      exact hy
     obtain ⟨hlt, hM2⟩ := List.getElem?_eq_some_iff.1 hM1
     rw [← hM2, List.set_getElem_self]
    rw [← HM.out] at HOa
    go_wp2_with fail
    exact ⟨⟨q + 1, by omega, by simp, HOa, HBa⟩, by simp [intOf]; omega⟩
   ·have HP := zA (((HOa.out.stored (q * 3) (.int .i64 e)).1.stored (q * 3 + 1) (.int .i64 who)).1.stored (q * 3 + 2) (.bool true)).1
    rw [cellsW_set M q ⟨e, who, true⟩, ← show promW (L.take (q + 1)) e who ++ L.drop (q + 1) = M.set q ⟨e, who, true⟩ from HS.out] at HP
    have HBs := zA (((HBa.out.setCell (p := ⟨g, q * 3, none⟩) hg (.int .i64 e)).setCell (p := ⟨g, q * 3 + 1, none⟩) hg (.int .i64 who)).setCell (p := ⟨g, q * 3 + 2, none⟩) hg (.bool true))
    go_wp2_with fail
    exact ⟨⟨q + 1, by omega, by simp, HP, HBs⟩, by simp [intOf]; omega⟩
  ·have hO' := hO.out
   rw [List.take_of_length_le (by omega), List.drop_of_length_le (by omega), List.append_nil, ← HR.out] at hO'
   have HO' := zA hO'
   clear hO' hO
   go_wp2_with fail
   go_ret
   exact ⟨⟨_, rfl, vwsV_own HO'.out, fun k hk => by cases hk; exact hg⟩, hB.out⟩
def winR (L : List VW) (who : Int) : List VW := if winE L who = 0 then winL L who else []
def setR (L : List VW) (who : Int) (up : Bool) : List VW := if unfW L who 2 = 0 then setL L who up else []
theorem yD.monoW {B C : Nat} {v : Value} (h : yD B v) (hc : C ≤ B) : yD C v := fun k hk => Nat.le_trans hc (h k hk)
theorem vwsV_nil (w : World) : VwsV w (.slice none 0 0) [] := ⟨none, 0, rfl, fun i p h => by simp at h, by simp, fun _ => rfl⟩
theorem fresh_nil (B : Nat) : yD B (.slice none 0 0) := fun k hk => by simp [Value.ownBlock] at hk
theorem unfW_right {L : List VW} {who n : Int} (h : unfW L who n = 0) : zO L = 0 ∧ 0 ≤ who ∧ who ≤ n := by
 rw [unfW] at h
 by_cases h0 : zO L = 0
 ·rw [if_pos h0] at h
  by_cases h1 : wi who 0 n = true
  ·exact ⟨h0, (yH _ _ _).1 h1⟩
  ·rw [if_neg h1] at h
   omega
 ·rw [if_neg h0] at h
  exact absurd h h0
theorem winE_ways (L : List VW) (who : Int) : (unfW L who 1 ≠ 0 ∧ winE L who = unfW L who 1 ∧ winB L who = false ∧ winR L who = []) ∨
  (unfW L who 1 = 0 ∧ upAt L who = false ∧ winE L who = 0 ∧ winB L who = false ∧ winR L who = L) ∨ (unfW L who 1 = 0 ∧ upAt L who = true ∧ mostW upG L = false ∧ winE L who = 0 ∧ winB L who = false ∧ winR L who = L) ∨
  (unfW L who 1 = 0 ∧ upAt L who = true ∧ mostW upG L = true ∧ (zY L).e = 99 ∧ winE L who = 2 ∧ winB L who = false ∧ winR L who = []) ∨
  (unfW L who 1 = 0 ∧ upAt L who = true ∧ mostW upG L = true ∧ (zY L).e ≠ 99 ∧ winE L who = 0 ∧ winB L who = true ∧ winR L who = promW L ((zY L).e + 1) who) := by
 rw [winB, winR, winL, winE, winsW]
 by_cases h0 : unfW L who 1 = 0
 ·right
  rw [if_pos h0]
  cases upAt L who
  ·left; simp [h0]
  ·right
   cases mostW upG L
   ·left; simp [h0]
   ·right
    by_cases h1 : (zY L).e = 99
    ·left; simp [h0, h1]
    ·right; simp [h0, h1]
 ·left
  rw [if_neg h0]
  simp [h0]
theorem win_any (o : Option Addr) (cap : Nat) (L : List VW) (who : Int) (w : World) (hL : zJ w o L) (hlen : L.length ≤ 9223372036854775807) :
  Calls Tryz.prog 40 #[.slice o L.length cap, .int .i64 who] w fun e w' => (∃ o' n c', e = .returned (.tuple #[.slice o' n c', .bool (winB L who), .int .i64 (winE L who)]) ∧ VwsV w' (.slice o' n c') (winR L who) ∧ yD w.heap.size (.slice o' n c')) ∧ Below w.heap.size w w' := by
 have HL := zA hL
 have HU := zA (fun W (h : zJ W o L) => unfW_any who 2 o cap L W h hlen (by omega))
 simp only [show (2 : Int) - 1 = 1 from rfl] at HU
 clear hL
 by_cases h0 : unfW L who 1 = 0
 ·obtain ⟨hc, hw0, hw1⟩ := unfW_right h0
  have hl3 := yV hc
  obtain ⟨k, rfl⟩ : ∃ k : Nat, who = (k : Int) := ⟨who.toNat, by omega⟩
  obtain ⟨pl, hpl⟩ : ∃ pl, L[k]? = some pl := ⟨L[k]'(by omega), by simp⟩
  have hup : upAt L k = pl.u := by simp [upAt, hpl]
  have HN := zA (fun W (h : zJ W o L) => newest_any o cap L W h (by omega) (by omega) (fun p hp => ⟨(yB hc p hp).1, (yB hc p hp).2.1⟩))
  have HM := zA (fun W (h : zJ W o L) => mostU_any o cap L W h (by omega))
  have HK := zA (fun W (h : zJ W o L) => cloneW_any L o cap W h (by omega))
  have HPr := zA (fun W A e (h : zJ W (some A) L) => promised_any L A cap e k W h (by omega) (by omega))
  obtain ⟨te, tk, tu, -, ht, ht0, ht1, -⟩ := top_facts hc
  have hp := winE_ways L k
  rw [ht] at hp HN
  rw [h0] at hp HU
  simp only [ne_eq, not_true_eq_false, false_and, false_or, true_and, hup] at hp
  have hkI : (k : Int) < (L.length : Int) := by omega
  have HP := zA hpl
  have hwr : IntKind.i64.wrap (te + 1) = te + 1 := by rw [IntKind.wrap_i64]; omega
  clear h0 hc hl3 hup ht hpl hw0 hw1
  generalize mostW upG L = M at *
  generalize winE L k = WE at *
  generalize winB L k = WB at *
  generalize winR L k = WR at *
  have HP2 := zA hp
  clear hp
  obtain ⟨pe, pll, pu⟩ := pl
  have hfd : ∀ w : World, (Instr.field 109 (vwV te tk tu) 0).run Tryz.prog w = .ok (.int .i64 te) w := fun _ => by rfl
  go_enter Tryz.func40, Tryz.ntmps40
  go_wp2_with fail
  refine (HU.out _ HL.out).mono ?_
  rintro e w1 ⟨rfl, hb1⟩
  have HL1 := zA (HL.out.below hb1)
  have HB1 := zA hb1
  clear hb1
  obtain ⟨A, rfl, y0, y1, y2⟩ := HL1.out k _ HP.out
  simp only [] at y0 y1 y2
  rcases HP2.out with ⟨h1, rfl, rfl, rfl⟩ | ⟨h1, rfl, rfl, rfl, rfl⟩ | ⟨h1, rfl, h2, rfl, rfl, rfl⟩ | ⟨h1, rfl, h2, rfl, rfl, h3⟩
  ·subst h1
   go_wp2_with fail
   refine (HK.out _ HL1.out).mono ?_
   rintro e w2 ⟨⟨v, rfl, ⟨o', c', rfl, hv⟩, hf⟩, hb2⟩
   have HV := zA (And.intro (show VwsV w2 (.slice o' WR.length c') WR from ⟨o', c', rfl, hv⟩) hf)
   have HB2 := zA (HB1.out.trans (hb2.mono HB1.out.size))
   clear hv hf hb2
   go_wp2_with fail
   go_ret3
   exact ⟨⟨_, _, _, rfl, HV.out.1, HV.out.2.monoW HB1.out.size⟩, HB2.out⟩
  ·subst h1
   go_wp2_with fail
   refine (HM.out _ HL1.out).mono ?_
   rintro e w2 ⟨rfl, hb2⟩
   have HL2 := zA (HL1.out.below hb2)
   have HB2 := zA (HB1.out.trans (hb2.mono HB1.out.size))
   clear hb2 y0 y1 y2
   go_wp2_with fail
   refine (HK.out _ HL2.out).mono ?_
   rintro e w3 ⟨⟨v, rfl, ⟨o', c', rfl, hv⟩, hf⟩, hb3⟩
   have HV := zA (And.intro (show VwsV w3 (.slice o' WR.length c') WR from ⟨o', c', rfl, hv⟩) hf)
   have HB3 := zA (HB2.out.trans (hb3.mono HB2.out.size))
   clear hv hf hb3
   go_wp2_with fail
   go_ret3
   exact ⟨⟨_, _, _, rfl, HV.out.1, HV.out.2.monoW HB2.out.size⟩, HB3.out⟩
  ·subst h1
   go_wp2_with fail
   refine (HM.out _ HL1.out).mono ?_
   rintro e w2 ⟨rfl, hb2⟩
   have HL2 := zA (HL1.out.below hb2)
   have HB2 := zA (HB1.out.trans (hb2.mono HB1.out.size))
   clear hb2 y0 y1 y2
   go_wp2_with fail
   refine (HN.out _ HL2.out).mono ?_
   rintro e w3 ⟨rfl, hb3⟩
   have HB3 := zA (HB2.out.trans (hb3.mono HB2.out.size))
   clear hb3
   subst h2
   go_wp2_with fail
   go_ret3
   exact ⟨⟨_, _, _, rfl, vwsV_nil _, fresh_nil _⟩, HB3.out⟩
  ·subst h1
   have h99 : decide (te + 1 > 99) = false := by simp; omega
   have H2 := zA h2
   clear h2
   go_wp2_with fail
   refine (HM.out _ HL1.out).mono ?_
   rintro e w2 ⟨rfl, hb2⟩
   have HL2 := zA (HL1.out.below hb2)
   have HB2 := zA (HB1.out.trans (hb2.mono HB1.out.size))
   clear hb2 y0 y1 y2
   go_wp2_with fail
   refine (HN.out _ HL2.out).mono ?_
   rintro e w3 ⟨rfl, hb3⟩
   have HL3 := zA (HL2.out.below hb3)
   have HB3 := zA (HB2.out.trans (hb3.mono HB2.out.size))
   clear hb3
   have h99' : te < 99 := by have := H2.out; omega
   go_wp2_with fail
   refine (HPr.out _ A (te + 1) HL3.out).mono ?_
   rintro e w4 ⟨⟨v, rfl, ⟨o', c', rfl, hv⟩, hf⟩, hb4⟩
   rw [← h3] at hv hf
   have HV := zA (And.intro (show VwsV w4 (.slice o' WR.length c') WR from ⟨o', c', rfl, hv⟩) hf)
   rw [← h3]
   have HB4 := zA (HB3.out.trans (hb4.mono HB3.out.size))
   clear hv hf hb4 h3
   go_wp2_with fail
   go_ret3
   exact ⟨⟨_, _, _, rfl, HV.out.1, HV.out.2.monoW HB3.out.size⟩, HB4.out⟩
 ·have h0' : (unfW L who 1 != 0) = true := by simpa using h0
  rcases winE_ways L who with ⟨-, h1, h2, h3⟩ | ⟨h, -⟩ | ⟨h, -⟩ | ⟨h, -⟩ | ⟨h, -⟩
  ·rw [h1, h2, h3]
   clear h0 h1 h2 h3
   generalize unfW L who 1 = E at *
   go_enter Tryz.func40, Tryz.ntmps40
   go_wp2_with fail
   refine (HU.out _ HL.out).mono ?_
   rintro e w1 ⟨rfl, hb⟩
   have HB := zA hb
   clear hb
   go_wp2_with fail
   go_ret3
   exact ⟨⟨_, _, _, rfl, vwsV_nil _, fresh_nil _⟩, HB.out⟩
  all_goals exact absurd h h0
structure GT where
 i : Int
 z : Int
 s : Int
 oa : Option Addr
 A : List TP
 ca : Nat
 v : Int
 od : Option Addr
 D : List Int
 cd : Nat
 l : Int
 u : Int
def GT.cells (g : GT) : List Value := [.int .i64 g.i, .int .i64 g.z, .int .i64 g.s, .slice g.oa g.A.length g.ca, .int .i64 g.v, .slice g.od g.D.length g.cd, .int .i64 g.l, .int .i64 g.u]
def zL (L : List GT) : List Value := L.flatMap GT.cells
theorem cellsG_app (L M : List GT) : zL (L ++ M) = zL L ++ zL M := by simp [zL]
theorem cellsG_len (L : List GT) : (zL L).length = L.length * 8 := by
 induction L with
 | nil => rfl
 | cons p L ih =>
  rw [zL, List.flatMap_cons, List.length_append, List.length_cons, ← zL, ih]
  simp [GT.cells]; omega
theorem oneG (L : List GT) : ∀ u ∈ zL L, u.oneCell' = true := by
 intro u hu
 simp only [zL, GT.cells, List.mem_flatMap, List.mem_cons, List.not_mem_nil, or_false] at hu
 obtain ⟨p, -, h⟩ := hu
 rcases h with rfl | rfl | rfl | rfl | rfl | rfl | rfl | rfl <;> rfl
theorem infoGt : (Tryz.prog.info? 47).map (fun i => (i.zero, i.size, i.bytes)) = some (some (.agg #[.int .i64 0, .int .i64 0, .int .i64 0, .slice none 0 0, .int .i64 0, .slice none 0 0, .int .i64 0, .int .i64 0]), 8, 96) := by kernel_rfl
theorem yI {w : World} {base : Nat} {e : TypeId} {size : Nat} {v : Value} {n : Nat} {xs : List Value} (h : w.ownsRow base e size v n xs) {p : Addr} (hp : p.block < base) (u : Value) : (w.setCell p u).ownsRow base e size v n xs := by
 refine ⟨h.1, ?_⟩
 rcases h.2 with h0 | ⟨g, cap, cur, h1, h2, h3, h4⟩
 ·exact .inl h0
 ·refine .inr ⟨g, cap, cur, h1, h2, ?_, h4⟩
  rw [heap_setCell_other w _ _ _ (by omega)]
  exact h3
def gt0 (i z : Int) : GT := ⟨i, z, 0, none, [], 0, 0, none, [], 0, 9, 100⟩
def newG : List GT := [gt0 0 1, gt0 1 2, gt0 2 4]
def newV : List VW := [⟨0, 0, true⟩, ⟨0, 0, true⟩, ⟨0, 0, true⟩]
abbrev stV (o1 o2 o3 : Option Addr) (n1 c1 n2 c2 n3 c3 : Nat) (v : Int) (od : Option Addr) (nd cd : Nat) (og : Option Addr) (ng cg : Nat) (ov : Option Addr) (nv cv : Nat) : Value :=
 .agg #[.slice o1 n1 c1, .slice o2 n2 c2, .slice o3 n3 c3, .int .i64 v, .slice od nd cd, .slice og ng cg, .slice ov nv cv]
theorem eight_new (w : World) (x : GT) (T : TypeId) : ∀ j u, x.cells[j]? = some u → (w.alloc (.cells x.cells.toArray T)).cell? ((⟨w.heap.size, 0, none⟩ : Addr).add j) = some u := by
 intro j u hj
 rw [show ((⟨w.heap.size, 0, none⟩ : Addr).add j) = ⟨w.heap.size, j, none⟩ by by_cases h : j = 0 <;> simp [Addr.add, h], cell_of_row _ _ j _ _ _ (heap_alloc_new w _)]
 simpa using hj
theorem three_newV (w : World) (T : TypeId) : ∀ j u, [Value.int .i64 0, .int .i64 0, .bool true][j]? = some u → (w.alloc (.cells #[.int .i64 0, .int .i64 0, .bool true] T)).cell? ((⟨w.heap.size, 0, none⟩ : Addr).add j) = some u := by
 intro j u hj
 match j, hj with
 | 0, hj | 1, hj | 2, hj =>
  simp at hj
  subst hj
  simp [Addr.add, go_sem]
theorem own_slice {w : World} {base : Nat} {e : TypeId} {size : Nat} {v : Value} {n : Nat} {xs : List Value} (h : w.ownsRow base e size v n xs) : ∃ o c, v = .slice o n c ∧ n ≤ c ∧ (o = none → c = 0) := by
 rcases h.2 with ⟨rfl, h0⟩ | ⟨g, cap, cur, rfl, -, -, hc, -⟩
 ·exact ⟨none, 0, by rw [h0], by omega, fun _ => rfl⟩
 ·exact ⟨_, cap, rfl, hc, fun h => by cases h⟩
theorem new_step {w wa w1 : World} {os : List Obj} {gv v v1 : Value} {n n' : Nat} {xs ys zs : List Value} (hl : os.length = 2) (hG : zM w wa os) (hO : wa.ownsRow (w.heap.size + 1 + 1) 47 8 gv 3 xs) (hV : wa.ownsRow (w.heap.size + 1 + 1) 109 3 v n ys)
  (hown : w1.ownsRow (w.heap.size + 1 + 1) 109 3 v1 n' zs) (hgrow : wa.grownBy w1 v.ownBlock) : ∃ o' c', v1 = .slice o' n' c' ∧ zM w w1 os ∧ w1.ownsRow (w.heap.size + 1 + 1) 47 8 gv 3 xs := by
 obtain ⟨o', c', rfl, -⟩ := own_slice hown
 have hsz := hG.2.1
 refine ⟨o', c', rfl, hG.keep ?_, ?_⟩
 ·exact (Below.refl _ _).grown hgrow (by omega) (fun k hk => by have := (hV.lt k hk).1; omega)
 ·refine ownsRow_far hO hgrow (fun g cur hg he => ?_)
  obtain ⟨-, cur', h⟩ := ownsRow_block hV g hg
  rw [h] at he
  simp at he
theorem new_any (w : World) :
  Calls Tryz.prog 41 #[] w fun e w' => (∃ og cg ov cv, e = .returned (stV none none none 0 0 0 0 0 0 0 none 0 0 og 3 cg ov 3 cv) ∧ w'.ownsRow (w.heap.size + 1 + 1) 47 8 (.slice og 3 cg) 3 (zL newG) ∧ w'.ownsRow (w.heap.size + 1 + 1) 109 3 (.slice ov 3 cv) 3 (zP newV)) ∧ Below w.heap.size w w' := by
 obtain ⟨i0, hi, hz0, hz1, hz2⟩ := info_parts infoGt
 obtain ⟨j0, ji, jz0, jz1, jz2⟩ := info_parts infoVw
 have HG0 := zA (((zM.nil w).more (.cells #[.slice none 0 0, .slice none 0 0, .slice none 0 0, .int .i64 0, .slice none 0 0, .slice none 0 0, .slice none 0 0] 32) (by simp)).more (.cells #[.slice none 0 0, .slice none 0 0, .slice none 0 0, .int .i64 0, .slice none 0 0, .slice none 0 0, .slice none 0 0] 99) (by simp))
 go_enter Tryz.func41, Tryz.ntmps41
 go_wp2_with fail
 generalize (w.alloc _).alloc _ = w0 at *
 go_loopw [3] (fun j wr => ∃ (q : Nat) (o : Option Addr) (c : Nat), q ≤ 3 ∧ j = .int .i64 q ∧ Hid (zM w wr [.cells #[.slice none 0 0, .slice none 0 0, .slice none 0 0, .int .i64 0, .slice none 0 0, .slice none 0 0, .slice none 0 0] 32, .cells #[.slice none 0 0, .slice none 0 0, .slice none 0 0, .int .i64 0, .slice none 0 0, .slice o q c, .slice none 0 0] 99]) ∧ Hid (wr.ownsRow (w.heap.size + 1 + 1) 47 8 (.slice o q c) q (zL (newG.take q)))) (fun j _ => 3 - (intOf j).toNat)
 case atStart => exact ⟨0, none, 0, by omega, rfl, HG0.out, World.ownsRow_nil _ _ _ _⟩
 case round =>
  obtain ⟨q, o, c, hq, rfl, hG, hO⟩ := hrel
  by_cases hgo : q < 3
  ·have hq3 : (q : Int) < 3 := by omega
   have l1 := hG.out.lt 1 (w.heap.size + 1) (by simp) rfl
   have c5 := hG.out.cell 1 5 (w.heap.size + 1) _ _ _ rfl rfl rfl
   have hsz := hG.out.2.1
   simp only [List.length_cons, List.length_nil] at hsz
   obtain ⟨z, hz⟩ : ∃ z : Int, z = 2 ^ q := ⟨_, rfl⟩
   have HS : Hid (newG.take (q + 1) = newG.take q ++ [gt0 q z]) := by
    show _ = _
    rw [hz]
    rcases (by omega : q = 0 ∨ q = 1 ∨ q = 2) with rfl | rfl | rfl <;> rfl
   have HZ := zA hz
   clear hz
   have hq0 : ¬ ((q : Int) < 0) := by omega
   go_wp2_with fail
   refine wp_region_reads (fun _ => True) [0, 1, 3, 4, 5, 6, 7] 6 (by rfl) (by kernel_rfl) (by kernel_rfl) (by kernel_rfl) (fun c d v a w h => by cases d <;> exact h) trivial ?_
   refine zC (.pointer (some ⟨w.heap.size + 1, 0, none⟩)) rfl rfl (fun w' _ => ?_) ?_
   ·go_simp
   refine zC (.pointer (some ⟨w.heap.size + 1, 5, none⟩)) rfl rfl (fun w' _ => ?_) ?_
   ·go_simp
   refine zC (.int .i64 (q : Int)) rfl rfl (fun w' _ => ?_) ?_
   ·go_simp
   refine zC (.int .i64 (q : Int)) rfl rfl (fun w' _ => ?_) ?_
   ·go_simp
   refine zC (.int .i64 z) rfl rfl (fun w' _ => ?_) ?_
   ·rw [HZ.out]; rcases (by omega : q = 0 ∨ q = 1 ∨ q = 2) with rfl | rfl | rfl <;> (go_simp; decide)
   refine zC (.agg #[.int .i64 9, .int .i64 100]) rfl rfl (fun w' _ => ?_) ?_
   ·go_simp
   refine zC (.agg #[.int .i64 (q : Int), .int .i64 z, .int .i64 0, .slice none 0 0, .int .i64 0, .slice none 0 0, .int .i64 9, .int .i64 100]) rfl rfl (fun w' _ => ?_) ?_
   ·go_simp
   refine wpPureH_nil ?_
   have HGd := zA (hG.out.on (Below.refl _ _).drew)
   have HOd := zA (yP hO.out (Below.refl _ _).drew)
   clear c5 l1 hG hO
   generalize World.drew _ = wa at *
   have hsz := HGd.out.2.1
   simp only [List.length_cons, List.length_nil] at hsz
   have l1 := HGd.out.lt 1 (w.heap.size + 1) (by simp) rfl
   have c5 := HGd.out.cell 1 5 (w.heap.size + 1) _ _ _ rfl rfl rfl
   have HGe := zA (HGd.out.on ((Below.refl wa.heap.size wa).alloc (Nat.le_refl _) (.cells #[.int .i64 (q : Int), .int .i64 z, .int .i64 0, .slice none 0 0, .int .i64 0, .slice none 0 0, .int .i64 9, .int .i64 100] 47)))
   have HOe := zA (yP HOd.out ((Below.refl wa.heap.size wa).alloc (Nat.le_refl _) (.cells #[.int .i64 (q : Int), .int .i64 z, .int .i64 0, .slice none 0 0, .int .i64 0, .slice none 0 0, .int .i64 9, .int .i64 100] 47)))
   have HN : Hid (∀ j u, (gt0 q z).cells[j]? = some u → (wa.alloc (.cells #[.int .i64 (q : Int), .int .i64 z, .int .i64 0, .slice none 0 0, .int .i64 0, .slice none 0 0, .int .i64 9, .int .i64 100] 47)).cell? ((⟨wa.heap.size, 0, none⟩ : Addr).add j) = some u) := eight_new wa (gt0 q z) 47
   have hsze : (wa.alloc (.cells #[.int .i64 (q : Int), .int .i64 z, .int .i64 0, .slice none 0 0, .int .i64 0, .slice none 0 0, .int .i64 9, .int .i64 100] 47)).heap.size = wa.heap.size + 1 := by simp
   have c5e := HGe.out.cell 1 5 (w.heap.size + 1) _ _ _ rfl rfl rfl
   have l1e := HGe.out.lt 1 (w.heap.size + 1) (by simp) rfl
   refine two_readyH (i := 2) (j := 8) (by kernel_rfl) rfl rfl rfl rfl (fun K hK => ?_) (fun K hK => ?_)
   ·go_simp
    refine hK _ _ trivial ?_
    clear hK K
    refine oR 8 rfl rfl fun K hK => ?_
    go_simp
    refine hK _ _ trivial ?_
    clear hK K
    generalize wa.alloc (.cells #[.int .i64 (q : Int), .int .i64 z, .int .i64 0, .slice none 0 0, .int .i64 0, .slice none 0 0, .int .i64 9, .int .i64 100] 47) = wb at *
    refine oR 9 rfl rfl fun K hK => ?_
    refine wp_append_row _ _ 29 rfl (w.heap.size + 1 + 1) 47 i0 _ 8 96 Tryz.underlying29 hi hz0 hz1 hz2 rfl (by decide) (.slice o q c) q (zL (newG.take q)) (by go_simp) HOe.out (some ⟨wa.heap.size, 0, none⟩) 1 1 (gt0 q z).cells (by go_simp) rfl (fun ad e => by cases e; exact HN.out) (fun u hu => oneG [gt0 q z] u (by simpa [zL] using hu)) (fun e => by cases e) (by unfold maxLen; omega) (by omega) (by omega) ?_
    intro v' wc hown hgrow
    refine hK _ _ trivial ?_
    clear hK K
    obtain ⟨o', c', rfl, -⟩ := own_slice hown
    have HGf : Hid (zM w wc [.cells #[.slice none 0 0, .slice none 0 0, .slice none 0 0, .int .i64 0, .slice none 0 0, .slice none 0 0, .slice none 0 0] 32, .cells #[.slice none 0 0, .slice none 0 0, .slice none 0 0, .int .i64 0, .slice none 0 0, .slice o q c, .slice none 0 0] 99]) := by
     refine zA (HGe.out.keep ?_)
     exact (Below.refl _ _).grown hgrow (by simp; omega) (fun k hk => by have := (HOe.out.lt k hk).1; simp; omega)
    have HOf : Hid (wc.ownsRow (w.heap.size + 1 + 1) 47 8 (.slice o' (q + 1) c') (q + 1) (zL (newG.take (q + 1)))) := by
     show World.ownsRow _ _ _ _ _ _ _
     rw [HS.out, cellsG_app]
     simpa [zL] using hown
    clear hown hgrow
    have l1f := HGf.out.lt 1 (w.heap.size + 1) (by simp) rfl
    have c5f := HGf.out.cell 1 5 (w.heap.size + 1) _ _ _ rfl rfl rfl
    have f5f := HGf.out.frozen 1 5 (w.heap.size + 1) _ _ rfl rfl
    refine oR 10 rfl rfl fun K hK => ?_
    go_simp
    refine hK _ _ trivial ?_
    clear hK K
    refine oR 11 rfl rfl fun K hK => ?_
    go_simp
    refine hK _ _ trivial ?_
    clear hK K
    refine oR 12 rfl rfl fun K hK => ?_
    go_simp
    refine hK _ _ trivial ?_
    clear hK K
    refine wpAnyH_done (by kernel_rfl) ?_ _
    have HGg := zA (HGf.out.put 1 5 (w.heap.size + 1) _ _ (.slice o' (q + 1) c') rfl rfl)
    have HOg := zA (yI HOf.out (p := ⟨w.heap.size + 1, 5, none⟩) (by simp) (.slice o' (q + 1) c'))
    go_wp2_with fail
    exact ⟨⟨q + 1, o', c', by omega, by simp, HGg, HOg⟩, by simp [intOf]; omega⟩
   ·go_simp
    refine hK _ _ trivial ?_
    clear hK K
    refine oR 2 rfl rfl fun K hK => ?_
    go_simp
    refine hK _ _ trivial ?_
    clear hK K
    generalize wa.alloc (.cells #[.int .i64 (q : Int), .int .i64 z, .int .i64 0, .slice none 0 0, .int .i64 0, .slice none 0 0, .int .i64 9, .int .i64 100] 47) = wb at *
    refine oR 9 rfl rfl fun K hK => ?_
    refine wp_append_row _ _ 29 rfl (w.heap.size + 1 + 1) 47 i0 _ 8 96 Tryz.underlying29 hi hz0 hz1 hz2 rfl (by decide) (.slice o q c) q (zL (newG.take q)) (by go_simp) HOe.out (some ⟨wa.heap.size, 0, none⟩) 1 1 (gt0 q z).cells (by go_simp) rfl (fun ad e => by cases e; exact HN.out) (fun u hu => oneG [gt0 q z] u (by simpa [zL] using hu)) (fun e => by cases e) (by unfold maxLen; omega) (by omega) (by omega) ?_
    intro v' wc hown hgrow
    refine hK _ _ trivial ?_
    clear hK K
    obtain ⟨o', c', rfl, -⟩ := own_slice hown
    have HGf : Hid (zM w wc [.cells #[.slice none 0 0, .slice none 0 0, .slice none 0 0, .int .i64 0, .slice none 0 0, .slice none 0 0, .slice none 0 0] 32, .cells #[.slice none 0 0, .slice none 0 0, .slice none 0 0, .int .i64 0, .slice none 0 0, .slice o q c, .slice none 0 0] 99]) := by
     refine zA (HGe.out.keep ?_)
     exact (Below.refl _ _).grown hgrow (by simp; omega) (fun k hk => by have := (HOe.out.lt k hk).1; simp; omega)
    have HOf : Hid (wc.ownsRow (w.heap.size + 1 + 1) 47 8 (.slice o' (q + 1) c') (q + 1) (zL (newG.take (q + 1)))) := by
     show World.ownsRow _ _ _ _ _ _ _
     rw [HS.out, cellsG_app]
     simpa [zL] using hown
    clear hown hgrow
    have l1f := HGf.out.lt 1 (w.heap.size + 1) (by simp) rfl
    have c5f := HGf.out.cell 1 5 (w.heap.size + 1) _ _ _ rfl rfl rfl
    have f5f := HGf.out.frozen 1 5 (w.heap.size + 1) _ _ rfl rfl
    refine oR 10 rfl rfl fun K hK => ?_
    go_simp
    refine hK _ _ trivial ?_
    clear hK K
    refine oR 11 rfl rfl fun K hK => ?_
    go_simp
    refine hK _ _ trivial ?_
    clear hK K
    refine oR 12 rfl rfl fun K hK => ?_
    go_simp
    refine hK _ _ trivial ?_
    clear hK K
    refine wpAnyH_done (by kernel_rfl) ?_ _
    have HGg := zA (HGf.out.put 1 5 (w.heap.size + 1) _ _ (.slice o' (q + 1) c') rfl rfl)
    have HOg := zA (yI HOf.out (p := ⟨w.heap.size + 1, 5, none⟩) (by simp) (.slice o' (q + 1) c'))
    go_wp2_with fail
    exact ⟨⟨q + 1, o', c', by omega, by simp, HGg, HOg⟩, by simp [intOf]; omega⟩
  ·have hq3 : ¬ ((q : Int) < 3) := by omega
   obtain rfl : q = 3 := by omega
   go_wp2_with fail
   go_loopw [19] (fun j ws => ∃ (p : Nat) (ov : Option Addr) (cv : Nat), p ≤ 3 ∧ j = .int .i64 p ∧ Hid (zM w ws [.cells #[.slice none 0 0, .slice none 0 0, .slice none 0 0, .int .i64 0, .slice none 0 0, .slice none 0 0, .slice none 0 0] 32, .cells #[.slice none 0 0, .slice none 0 0, .slice none 0 0, .int .i64 0, .slice none 0 0, .slice o 3 c, .slice ov p cv] 99]) ∧ Hid (ws.ownsRow (w.heap.size + 1 + 1) 47 8 (.slice o 3 c) 3 (zL newG)) ∧ Hid (ws.ownsRow (w.heap.size + 1 + 1) 109 3 (.slice ov p cv) p (zP (newV.take p)))) (fun j _ => 3 - (intOf j).toNat)
   case atStart => exact ⟨0, none, 0, by omega, rfl, hG, hO, World.ownsRow_nil _ _ _ _⟩
   case round =>
    obtain ⟨p, ov, cv, hp, rfl, hG2, hO2, hV2⟩ := hrel
    clear hG hO
    by_cases hgp : p < 3
    ·have hp3 : (p : Int) < 3 := by omega
     have l1 := hG2.out.lt 1 (w.heap.size + 1) (by simp) rfl
     have c6 := hG2.out.cell 1 6 (w.heap.size + 1) _ _ _ rfl rfl rfl
     have f6 := hG2.out.frozen 1 6 (w.heap.size + 1) _ _ rfl rfl
     have hsz := hG2.out.2.1
     simp only [List.length_cons, List.length_nil] at hsz
     have HS : Hid (newV.take (p + 1) = newV.take p ++ [⟨0, 0, true⟩]) := by
      rcases (by omega : p = 0 ∨ p = 1 ∨ p = 2) with rfl | rfl | rfl <;> rfl
     have hba := (Below.refl wr.heap.size wr).alloc (Nat.le_refl _) (.cells #[.int .i64 0, .int .i64 0, .bool true] 109)
     have HGa := zA (hG2.out.on hba)
     have HOa := zA (yP hO2.out hba)
     have HVa := zA (yP hV2.out hba)
     have HN := zA (three_newV wr 109)
     clear hba
     go_wp2_with (at_builtin; refine wpList_append_own _ rfl (.tmp 23) (.tmp 25) 30 rfl (w.heap.size + 1 + 1) 109 j0 _ 3 24 Tryz.underlying30 ji jz0 jz1 jz2 rfl (by decide) _ p _ rfl HVa.out ⟨wr.heap.size, 0, none⟩ 1 1 [.int .i64 0, .int .i64 0, .bool true] rfl rfl HN.out (by intro u hu; simp at hu; rcases hu with rfl | rfl <;> rfl) (by unfold maxLen; omega) (by omega) (by simp; omega) ?_; intro v1 w1 hown1 hgrow1 _; obtain ⟨o', c', rfl, hx1, hx2⟩ := new_step rfl HGa.out HOa.out HVa.out hown1 hgrow1; have HGf := zA hx1; have HOf := zA hx2; have HVf := zA hown1; clear hown1 hgrow1 hx1 hx2 c6 f6 l1; have l1f := HGf.out.lt 1 (w.heap.size + 1) (by simp) rfl; have c6f := HGf.out.cell 1 6 (w.heap.size + 1) _ _ _ rfl rfl rfl; have f6f := HGf.out.frozen 1 6 (w.heap.size + 1) _ _ rfl rfl)
     rw [show zP (newV.take p) ++ [Value.int .i64 0, .int .i64 0, .bool true] = zP (newV.take (p + 1)) by rw [HS.out, cellsW_app]; rfl] at HVf
     have HGg := zA (HGf.out.put 1 6 (w.heap.size + 1) _ _ (.slice o' (p + 1) c') rfl rfl)
     have HOg := zA (yI HOf.out (p := ⟨w.heap.size + 1, 6, none⟩) (by simp) (.slice o' (p + 1) c'))
     have HVg := zA (yI HVf.out (p := ⟨w.heap.size + 1, 6, none⟩) (by simp) (.slice o' (p + 1) c'))
     exact ⟨⟨p + 1, o', c', by omega, by simp, HGg, HOg, HVg⟩, by simp [intOf]; omega⟩
    ·have hp3 : ¬ ((p : Int) < 3) := by omega
     obtain rfl : p = 3 := by omega
     have l1 := hG2.out.lt 1 (w.heap.size + 1) (by simp) rfl
     have l0 := hG2.out.lt 0 w.heap.size (by simp) rfl
     obtain ⟨k0, k1, k2, k3, k4, k5, k6⟩ := hG2.out.c7 1 (w.heap.size + 1) rfl rfl rfl rfl rfl rfl rfl rfl rfl
     obtain ⟨r0, r1, r2, r3, r4, r5, r6⟩ := hG2.out.c7 0 w.heap.size rfl rfl rfl rfl rfl rfl rfl rfl rfl
     obtain ⟨f0, f1, f2, f3, f4, f5, f6⟩ := hG2.out.z7 0 w.heap.size rfl rfl
     go_wp2_with fail
     refine bodyPost_ret (v := stV none none none 0 0 0 0 0 0 0 none 0 0 o 3 c ov 3 cv) (by simp [results, Tryz.results41, go_sem, *]) rfl ⟨⟨o, c, ov, cv, rfl, ?_, ?_⟩, ?_⟩
     ·repeat (first | with_reducible refine yI ?_ (by simp; omega) _ | exact hO2.out)
     ·repeat (first | with_reducible refine yI ?_ (by simp; omega) _ | exact hV2.out)
     ·repeat (first | with_reducible refine Below.setCell ?_ (by simp) _ | exact hG2.out.2.2)
theorem twi11_any (a g s m z ps : Int) (B : Nat) (w : World) (hc : w.cell? ⟨B, 2, none⟩ = some (.int .i64 ps)) :
  Calls Tryz.prog 111 #[tp a g s m z, .pointer (some ⟨B, 0, none⟩)] w fun e w' => e = .returned (.bool (s == ps)) ∧ Below w.heap.size w w' := by
 have hlt : B < w.heap.size := World.block_lt_of_cell? w ⟨B, 2, none⟩ hc
 go_enter Tryz.func111, Tryz.ntmps111
 go_wp2_with fail
 go_ret
 exact ⟨rfl, (Below.refl _ _).alloc (Nat.le_refl _) _⟩
theorem indexQ_any (ps : Int) (B : Nat) (o : Option Addr) (cap : Nat) (L : List TP) (w : World) (hL : zD w o L) (hlen : L.length ≤ 9223372036854775807) (hc : w.cell? ⟨B, 2, none⟩ = some (.int .i64 ps)) :
  Calls Tryz.prog 127 #[.slice o L.length cap, .func (.func 111) #[] #[.pointer (some ⟨B, 0, none⟩)]] w fun e w' =>
   (∃ n : Int, e = .returned (.int .i64 n) ∧ decide (0 ≤ n) = L.any (fun y => y.s == ps)) ∧ Below w.heap.size w w' := by
 have HL := zA hL
 have HC := zA hc
 clear hL hc
 go_enter Tryz.func127, Tryz.ntmps127
 go_wp2_with fail
 go_loopw [8] (fun j wr => ∃ (q : Nat), q ≤ L.length ∧ j = .int .i64 q ∧ Hid ((L.take q).any (fun y => y.s == ps) = false) ∧ Below w.heap.size w wr) (fun j _ => L.length - (intOf j).toNat)
 case atStart => exact ⟨0, Nat.zero_le _, rfl, zA (by simp), Below.refl _ _⟩
 case round =>
  obtain ⟨q, hq, rfl, hF, hbr⟩ := hrel
  by_cases hgo : q < L.length
  ·obtain ⟨x, hp⟩ : ∃ x, L[q]? = some x := ⟨L[q], by simp [hgo]⟩
   have HS : Hid ((L.take (q + 1)).any (fun y => y.s == ps) = (x.s == ps)) := zA (by
    rw [List.take_add_one, hp, Option.toList_some, List.any_append, hF.out]
    simp)
   obtain ⟨A', rfl, c0, c1, c2, c3, c4⟩ := (HL.out.below hbr) q x hp
   have HP := zA hp
   clear hp
   go_wp2_with fail
   refine (twi11_any _ _ _ _ _ ps B _ (by rw [hbr.cell (World.block_lt_of_cell? w _ HC.out)]; exact HC.out)).mono ?_
   rintro e w3 ⟨rfl, hb3⟩
   have hbr3 := hbr.trans (hb3.mono hbr.size)
   clear hbr hb3
   cases hx : (x.s == ps)
   ·rw [hx] at HS
    clear hx
    go_wp2_with fail
    exact ⟨⟨q + 1, by omega, by simp, HS, hbr3⟩, by simp [intOf]; omega⟩
   ·have HX := zA hx
    clear hx
    go_wp2_with fail
    go_ret
    refine ⟨⟨q, rfl, ?_⟩, hbr3⟩
    have : L.any (fun y => y.s == ps) = true := List.any_eq_true.2 ⟨x, List.mem_of_getElem? HP.out, HX.out⟩
    simp only [this]
    simp
  ·go_wp2_with fail
   go_ret
   refine ⟨⟨-1, rfl, ?_⟩, hbr⟩
   have h1 := hF.out
   rw [List.take_of_length_le (by omega)] at h1
   rw [h1]
   rfl
theorem containsQ_any (ps : Int) (B : Nat) (o : Option Addr) (cap : Nat) (L : List TP) (w : World) (hL : zD w o L) (hlen : L.length ≤ 9223372036854775807) (hc : w.cell? ⟨B, 2, none⟩ = some (.int .i64 ps)) :
  Calls Tryz.prog 109 #[.slice o L.length cap, .func (.func 111) #[] #[.pointer (some ⟨B, 0, none⟩)]] w fun e w' => e = .returned (.bool (L.any (fun y => y.s == ps))) ∧ Below w.heap.size w w' := by
 have HI := zA (indexQ_any ps B o cap L w hL hlen hc)
 clear hL hc
 go_enter Tryz.func109, Tryz.ntmps109
 go_wp2_with fail
 refine HI.out.mono ?_
 rintro e w' ⟨⟨n, rfl, hn⟩, hb⟩
 have HN := zA hn
 clear hn
 go_wp2_with fail
 go_ret
 exact ⟨by rw [← HN.out]; rfl, hb⟩
def twiG (i sq : Int) (A : List TP) (p : TP) : Bool := (p.g == i) && (decide (sq < p.s) || A.any fun y => y.s == p.s)
theorem twi1_any (a g s m z i sq : Int) (oa : Option Addr) (A : List TP) (ca G : Nat) (w : World) (h0 : w.cell? ⟨G, 0, none⟩ = some (.int .i64 i)) (h2 : w.cell? ⟨G, 2, none⟩ = some (.int .i64 sq)) (h3 : w.cell? ⟨G, 3, none⟩ = some (.slice oa A.length ca)) (hA : zD w oa A) (hlA : A.length ≤ 9223372036854775807) :
  Calls Tryz.prog 110 #[tp a g s m z, .pointer (some ⟨G, 0, none⟩)] w fun e w' => e = .returned (.bool (twiG i sq A ⟨a, g, s, m, z⟩)) ∧ Below w.heap.size w w' := by
 have HB := zA ((zM.nil w).more (.cells #[.int .i64 a, .int .i64 g, .int .i64 s, .int .i64 m, .int .i64 z] 66) (by simp))
 have hlt : G < w.heap.size := World.block_lt_of_cell? w ⟨G, 0, none⟩ h0
 have HC := zA (containsQ_any s w.heap.size oa ca A (w.alloc (.cells #[.int .i64 a, .int .i64 g, .int .i64 s, .int .i64 m, .int .i64 z] 66)) (hA.below HB.out.2.2) hlA (HB.out.cell 0 2 w.heap.size _ _ _ rfl rfl rfl))
 clear hA
 have hp : (g == i) = false ∨ ((g == i) = true ∧ sq < s) ∨ ((g == i) = true ∧ ¬ sq < s) := by cases (g == i) <;> by_cases h : sq < s <;> simp [h]
 rcases hp with h1 | ⟨h1, h4⟩ | ⟨h1, h4⟩
 ·have hr : twiG i sq A ⟨a, g, s, m, z⟩ = false := by simp only [twiG, h1, Bool.false_and]
  rw [hr]
  go_enter Tryz.func110, Tryz.ntmps110
  go_wp2_with fail
  go_ret
  exact ⟨rfl, HB.out.2.2⟩
 ·have hr : twiG i sq A ⟨a, g, s, m, z⟩ = true := by simp only [twiG, h1, Bool.true_and, decide_eq_true h4, Bool.true_or]
  rw [hr]
  go_enter Tryz.func110, Tryz.ntmps110
  go_wp2_with fail
  go_ret
  exact ⟨rfl, HB.out.2.2⟩
 ·have hr : twiG i sq A ⟨a, g, s, m, z⟩ = A.any fun y => y.s == s := by simp only [twiG, h1, Bool.true_and, decide_eq_false h4, Bool.false_or]
  rw [hr]
  generalize (A.any fun y => y.s == s) = R at *
  go_enter Tryz.func110, Tryz.ntmps110
  go_wp2_with fail
  refine HC.out.mono ?_
  rintro e w1 ⟨rfl, hb⟩
  have HB1 := zA (HB.out.on hb)
  clear hb HB
  go_wp2_with fail
  go_ret
  exact ⟨rfl, HB1.out.2.2⟩
theorem indexG_any (i sq : Int) (oa : Option Addr) (A : List TP) (ca G : Nat) (o : Option Addr) (cap : Nat) (L : List TP) (w : World) (hL : zD w o L) (hlen : L.length ≤ 9223372036854775807) (h0 : w.cell? ⟨G, 0, none⟩ = some (.int .i64 i)) (h2 : w.cell? ⟨G, 2, none⟩ = some (.int .i64 sq)) (h3 : w.cell? ⟨G, 3, none⟩ = some (.slice oa A.length ca)) (hA : zD w oa A) (hlA : A.length ≤ 9223372036854775807) :
  Calls Tryz.prog 127 #[.slice o L.length cap, .func (.func 110) #[] #[.pointer (some ⟨G, 0, none⟩)]] w fun e w' =>
   (∃ n : Int, e = .returned (.int .i64 n) ∧ decide (0 ≤ n) = L.any (twiG i sq A)) ∧ Below w.heap.size w w' := by
 have HL := zA hL
 have HC := zA (And.intro h0 (And.intro h2 (And.intro h3 hA)))
 clear hL h0 h2 h3 hA
 go_enter Tryz.func127, Tryz.ntmps127
 go_wp2_with fail
 go_loopw [8] (fun j wr => ∃ (q : Nat), q ≤ L.length ∧ j = .int .i64 q ∧ Hid ((L.take q).any (twiG i sq A) = false) ∧ Below w.heap.size w wr) (fun j _ => L.length - (intOf j).toNat)
 case atStart => exact ⟨0, Nat.zero_le _, rfl, zA (by simp), Below.refl _ _⟩
 case round =>
  obtain ⟨q, hq, rfl, hF, hbr⟩ := hrel
  by_cases hgo : q < L.length
  ·obtain ⟨x, hp⟩ : ∃ x, L[q]? = some x := ⟨L[q], by simp [hgo]⟩
   have HS : Hid ((L.take (q + 1)).any (twiG i sq A) = (twiG i sq A ⟨x.a, x.g, x.s, x.m, x.z⟩)) := zA (by
    rw [List.take_add_one, hp, Option.toList_some, List.any_append, hF.out]
    simp)
   obtain ⟨A', rfl, c0, c1, c2, c3, c4⟩ := (HL.out.below hbr) q x hp
   have HP := zA hp
   clear hp
   go_wp2_with fail
   refine (twi1_any _ _ _ _ _ i sq oa A ca G _ (by rw [hbr.cell (World.block_lt_of_cell? w _ HC.out.1)]; exact HC.out.1) (by rw [hbr.cell (World.block_lt_of_cell? w _ HC.out.2.1)]; exact HC.out.2.1) (by rw [hbr.cell (World.block_lt_of_cell? w _ HC.out.2.2.1)]; exact HC.out.2.2.1) (HC.out.2.2.2.below hbr) hlA).mono ?_
   rintro e w3 ⟨rfl, hb3⟩
   have hbr3 := hbr.trans (hb3.mono hbr.size)
   clear hbr hb3
   cases hx : (twiG i sq A ⟨x.a, x.g, x.s, x.m, x.z⟩)
   ·rw [hx] at HS
    clear hx
    go_wp2_with fail
    exact ⟨⟨q + 1, by omega, by simp, HS, hbr3⟩, by simp [intOf]; omega⟩
   ·have HX := zA hx
    clear hx
    go_wp2_with fail
    go_ret
    refine ⟨⟨q, rfl, ?_⟩, hbr3⟩
    have : L.any (twiG i sq A) = true := List.any_eq_true.2 ⟨x, List.mem_of_getElem? HP.out, HX.out⟩
    simp only [this]
    simp
  ·go_wp2_with fail
   go_ret
   refine ⟨⟨-1, rfl, ?_⟩, hbr⟩
   have h1 := hF.out
   rw [List.take_of_length_le (by omega)] at h1
   rw [h1]
   rfl
theorem containsG_any (i sq : Int) (oa : Option Addr) (A : List TP) (ca G : Nat) (o : Option Addr) (cap : Nat) (L : List TP) (w : World) (hL : zD w o L) (hlen : L.length ≤ 9223372036854775807) (h0 : w.cell? ⟨G, 0, none⟩ = some (.int .i64 i)) (h2 : w.cell? ⟨G, 2, none⟩ = some (.int .i64 sq)) (h3 : w.cell? ⟨G, 3, none⟩ = some (.slice oa A.length ca)) (hA : zD w oa A) (hlA : A.length ≤ 9223372036854775807) :
  Calls Tryz.prog 109 #[.slice o L.length cap, .func (.func 110) #[] #[.pointer (some ⟨G, 0, none⟩)]] w fun e w' => e = .returned (.bool (L.any (twiG i sq A))) ∧ Below w.heap.size w w' := by
 have HI := zA (indexG_any i sq oa A ca G o cap L w hL hlen h0 h2 h3 hA hlA)
 clear hL h0 h2 h3 hA
 go_enter Tryz.func109, Tryz.ntmps109
 go_wp2_with fail
 refine HI.out.mono ?_
 rintro e w' ⟨⟨n, rfl, hn⟩, hb⟩
 have HN := zA hn
 clear hn
 go_wp2_with fail
 go_ret
 exact ⟨by rw [← HN.out]; rfl, hb⟩
structure Gt8 (w : World) (b : Addr) (g : GT) : Prop where
 c0 : w.cell? b = some (.int .i64 g.i)
 c1 : w.cell? ⟨b.block, b.off + 1, none⟩ = some (.int .i64 g.z)
 c2 : w.cell? ⟨b.block, b.off + 2, none⟩ = some (.int .i64 g.s)
 c3 : w.cell? ⟨b.block, b.off + 3, none⟩ = some (.slice g.oa g.A.length g.ca)
 c4 : w.cell? ⟨b.block, b.off + 4, none⟩ = some (.int .i64 g.v)
 c5 : w.cell? ⟨b.block, b.off + 5, none⟩ = some (.slice g.od g.D.length g.cd)
 c6 : w.cell? ⟨b.block, b.off + 6, none⟩ = some (.int .i64 g.l)
 c7 : w.cell? ⟨b.block, b.off + 7, none⟩ = some (.int .i64 g.u)
theorem Gt8.lt {w : World} {b : Addr} {g : GT} (h : Gt8 w b g) : b.block < w.heap.size := World.block_lt_of_cell? w b h.c0
theorem Gt8.below {w w' : World} {b : Addr} {g : GT} {B : Nat} (h : Gt8 w b g) (hb : Below B w w') (hlt : b.block < B) : Gt8 w' b g :=
  ⟨(hb.cell hlt).trans h.c0, (hb.cell (p := ⟨b.block, b.off + 1, none⟩) hlt).trans h.c1, (hb.cell (p := ⟨b.block, b.off + 2, none⟩) hlt).trans h.c2, (hb.cell (p := ⟨b.block, b.off + 3, none⟩) hlt).trans h.c3,
   (hb.cell (p := ⟨b.block, b.off + 4, none⟩) hlt).trans h.c4, (hb.cell (p := ⟨b.block, b.off + 5, none⟩) hlt).trans h.c5, (hb.cell (p := ⟨b.block, b.off + 6, none⟩) hlt).trans h.c6, (hb.cell (p := ⟨b.block, b.off + 7, none⟩) hlt).trans h.c7⟩
def zV (w : World) (o : Option Addr) (L : List GT) : Prop := ∀ i g, L[i]? = some g → ∃ b, o = some b ∧ Gt8 w (b.add (i * 8)) g ∧ yR w (.slice g.oa g.A.length g.ca) g.A ∧ yQ w (.slice g.od g.D.length g.cd) g.D
theorem zV.below {w w' : World} {o : Option Addr} {L : List GT} (h : zV w o L) (hb : Below w.heap.size w w') : zV w' o L :=
 fun i g hi => have ⟨b, e, h8, h1, h2⟩ := h i g hi; ⟨b, e, h8.below hb h8.lt, h1.below hb, h2.below hb⟩
theorem twiceK_any (o1 o2 o3 : Option Addr) (n1 c1 c2 n3 c3 : Nat) (dv : Int) (odd : Option Addr) (nd cdd : Nat) (og : Option Addr) (ng cg : Nat) (ov : Option Addr) (nv cv : Nat) (P : List TP) (i z s : Int) (oa : Option Addr) (A : List TP) (ca : Nat) (v : Int) (od : Option Addr) (ndd cd : Nat) (l u : Int) (w : World)
  (hP : zD w o2 P) (hlP : P.length ≤ 9223372036854775807) (hA : zD w oa A) (hlA : A.length ≤ 9223372036854775807) :
  Calls Tryz.prog 86 #[stV o1 o2 o3 n1 c1 P.length c2 n3 c3 dv odd nd cdd og ng cg ov nv cv, gtV i z s oa A.length ca v od ndd cd l u] w fun e w' => e = .returned (.bool (P.any (twiG i s A))) ∧ Below w.heap.size w w' := by
 have HG := zA (((zM.nil w).more (.cells #[.slice o1 n1 c1, .slice o2 P.length c2, .slice o3 n3 c3, .int .i64 dv, .slice odd nd cdd, .slice og ng cg, .slice ov nv cv] 99) (by simp)).more (.cells #[.int .i64 i, .int .i64 z, .int .i64 s, .slice oa A.length ca, .int .i64 v, .slice od ndd cd, .int .i64 l, .int .i64 u] 47) (by simp))
 have HC := zA (containsG_any i s oa A ca (w.heap.size + 1) o2 c2 P _ (hP.below HG.out.2.2) hlP (HG.out.cell 1 0 (w.heap.size + 1) _ _ _ rfl rfl rfl) (HG.out.cell 1 2 (w.heap.size + 1) _ _ _ rfl rfl rfl) (HG.out.cell 1 3 (w.heap.size + 1) _ _ _ rfl rfl rfl) (hA.below HG.out.2.2) hlA)
 clear hP hA
 go_enter Tryz.func86, Tryz.ntmps86
 go_wp2_with fail
 refine HC.out.mono ?_
 rintro e w1 ⟨rfl, hb⟩
 have HG1 := zA (HG.out.on hb)
 clear hb HG HC
 go_wp2_with fail
 go_ret
 exact ⟨rfl, HG1.out.2.2⟩
def gateE (dv : Int) (P : List TP) (n : Nat) (g : GT) : Int :=
 if chkG g.i g.z g.s g.A g.v g.D g.l g.u = 0 then (if g.i = (n : Int) ∧ ¬ dv < g.v then (if P.any (twiG g.i g.s g.A) = true then 6 else 0) else 4) else chkG g.i g.z g.s g.A g.v g.D g.l g.u
def gatesF (dv : Int) (P : List TP) : Nat → List GT → Int
 | _, [] => 0
 | n, g :: L => if gateE dv P n g = 0 then gatesF dv P (n + 1) L else gateE dv P n g
def yM (dv : Int) (P : List TP) (G : List GT) : Int := if G.length = 3 then gatesF dv P 0 G else 1
theorem gatesF_at (dv : Int) (P : List TP) : ∀ (G : List GT) (n q : Nat) (g : GT), (∀ i x, i < q → G[i]? = some x → gateE dv P (n + i) x = 0) → G[q]? = some g → gateE dv P (n + q) g ≠ 0 → gatesF dv P n G = gateE dv P (n + q) g
 | [], n, q, g, _, h, _ => by simp at h
 | x :: L, n, 0, g, _, h, he => by
  simp at h
  subst h
  simp only [gatesF, Nat.add_zero] at he ⊢
  rw [if_neg he]
 | x :: L, n, q + 1, g, h0, h, he => by
  have hx := h0 0 x (by omega) rfl
  simp only [Nat.add_zero] at hx
  simp only [gatesF]
  rw [if_pos hx, gatesF_at dv P L (n + 1) q g (fun i y hi hy => by have := h0 (i + 1) y (by omega) (by simpa using hy); rwa [show n + 1 + i = n + (i + 1) by omega]) (by simpa using h) (by rwa [show n + 1 + q = n + (q + 1) by omega])]
  rw [show n + 1 + q = n + (q + 1) by omega]
theorem gatesF_zero (dv : Int) (P : List TP) : ∀ (G : List GT) (n : Nat), (∀ i x, G[i]? = some x → gateE dv P (n + i) x = 0) → gatesF dv P n G = 0
 | [], n, _ => rfl
 | x :: L, n, h => by
  have hx := h 0 x rfl
  simp only [Nat.add_zero] at hx
  simp only [gatesF]
  rw [if_pos hx, gatesF_zero dv P L (n + 1) (fun i y hy => by have := h (i + 1) y (by simpa using hy); rwa [show n + 1 + i = n + (i + 1) by omega])]
theorem yR.ats {w : World} {o : Option Addr} {c : Nat} {L : List TP} (h : yR w (.slice o L.length c) L) : zD w o L := by
 obtain ⟨o', c', e, h1, -⟩ := h
 simp only [Value.slice.injEq, true_and] at e
 obtain ⟨rfl, -⟩ := e
 exact h1
theorem yQ.ats {w : World} {o : Option Addr} {c : Nat} {L : List Int} (h : yQ w (.slice o L.length c) L) : zF w o L := by
 obtain ⟨o', c', e, h1, -⟩ := h
 simp only [Value.slice.injEq, true_and] at e
 obtain ⟨rfl, -⟩ := e
 exact h1
def GatesOk (G : List GT) : Prop := ∀ g ∈ G, g.A.length ≤ 9223372036854775807 ∧ g.D.length ≤ 9223372036854775807
theorem checkGates_any (o1 o2 o3 : Option Addr) (n1 c1 c2 n3 c3 : Nat) (dv : Int) (odd : Option Addr) (nd cdd : Nat) (og : Option Addr) (cg : Nat) (ov : Option Addr) (nv cv : Nat) (P : List TP) (G : List GT) (w : World) (hP : zD w o2 P) (hlP : P.length ≤ 9223372036854775807) (hG : zV w og G) (hok : GatesOk G) :
  Calls Tryz.prog 53 #[stV o1 o2 o3 n1 c1 P.length c2 n3 c3 dv odd nd cdd og G.length cg ov nv cv] w fun e w' => e = .returned (.int .i64 (yM dv P G)) ∧ Below w.heap.size w w' := by
 have HK := zA ((zM.nil w).more (.cells #[.slice o1 n1 c1, .slice o2 P.length c2, .slice o3 n3 c3, .int .i64 dv, .slice odd nd cdd, .slice og G.length cg, .slice ov nv cv] 99) (by simp))
 have HG := zA hG
 have HP := zA hP
 have HOk := zA hok
 clear hG hP hok
 obtain ⟨k0, k1, k2, k3, k4, k5, k6⟩ := HK.out.c7 0 w.heap.size rfl rfl rfl rfl rfl rfl rfl rfl rfl
 by_cases h3 : G.length = 3
 ·have HE0 : Hid (yM dv P G = gatesF dv P 0 G) := zA (if_pos h3)
  have h3' : ((G.length : Int) != 3) = false := by rw [h3]; rfl
  have h3a : G.length ≤ 3 := by omega
  have h3b : 3 ≤ G.length := by omega
  clear h3
  go_enter Tryz.func53, Tryz.ntmps53
  go_wp2_with fail
  go_loopw [15] (fun j wr => ∃ (q : Nat), q ≤ G.length ∧ j = .int .i64 q ∧ Hid (∀ i x, i < q → G[i]? = some x → gateE dv P (0 + i) x = 0) ∧ Hid (zM w wr [.cells #[.slice o1 n1 c1, .slice o2 P.length c2, .slice o3 n3 c3, .int .i64 dv, .slice odd nd cdd, .slice og G.length cg, .slice ov nv cv] 99])) (fun j _ => G.length - (intOf j).toNat)
  case atStart => exact ⟨0, Nat.zero_le _, rfl, zA (fun i x h => by omega), HK⟩
  case round =>
   obtain ⟨q, hq, rfl, HZ, HKr⟩ := hrel
   clear k0 k1 k2 k3 k4 k5 k6
   by_cases hgo : q < G.length
   ·obtain ⟨g, hg⟩ : ∃ g, G[q]? = some g := ⟨G[q], by simp [hgo]⟩
    obtain ⟨A, rfl, h8, hT, hI⟩ := (HG.out.below HKr.out.2.2) q g hg
    obtain ⟨c0, c1', c2', c3', c4', c5', c6', c7'⟩ := h8
    obtain ⟨hokA, hokD⟩ := HOk.out g (List.mem_of_getElem? hg)
    have HGt := zA (And.intro hg (And.intro hT hI))
    have hA : (A.add (q * 8)).block < wr.heap.size := World.block_lt_of_cell? wr (A.add (q * 8)) c0
    clear hg hT hI
    have HB := zA ((zM.nil wr).more (.cells #[.int .i64 g.i, .int .i64 g.z, .int .i64 g.s, .slice g.oa g.A.length g.ca, .int .i64 g.v, .slice g.od g.D.length g.cd, .int .i64 g.l, .int .i64 g.u] 47) (by simp))
    go_wp2_with fail
    refine (gateCheck_any g.i g.z g.s g.oa g.A g.ca g.v g.od g.D g.cd g.l g.u _ (HGt.out.2.1.below HB.out.2.2).ats (HGt.out.2.2.below HB.out.2.2).ats hokD).mono ?_
    rintro e w1 ⟨rfl, hb⟩
    have HB1 := zA (HB.out.on hb)
    have HK1 := zA (HKr.out.on HB1.out.2.2)
    clear hb HB HKr c0 c1' c2' c3' c4' c5' c6' c7' hA
    obtain ⟨b0, b1, b2, b3, b4, b5, b6, b7⟩ := HB1.out.c8 0 wr.heap.size rfl rfl rfl rfl rfl rfl rfl rfl rfl rfl
    obtain ⟨k0, k1, k2, k3, k4, k5, k6⟩ := HK1.out.c7 0 w.heap.size rfl rfl rfl rfl rfl rfl rfl rfl rfl
    have HAt := zA (fun h => (gatesF_at dv P G 0 q g HZ.out HGt.out.1 h))
    have hE : gateE dv P (0 + q) g = if chkG g.i g.z g.s g.A g.v g.D g.l g.u = 0 then (if g.i = (q : Int) ∧ ¬ dv < g.v then (if P.any (twiG g.i g.s g.A) = true then 6 else 0) else 4) else chkG g.i g.z g.s g.A g.v g.D g.l g.u := by rw [gateE, Nat.zero_add]
    rcases hC : (chkG g.i g.z g.s g.A g.v g.D g.l g.u != 0) with _ | _
    ·have hC0 : chkG g.i g.z g.s g.A g.v g.D g.l g.u = 0 := by simpa using hC
     rw [if_pos hC0] at hE
     rw [hC0]
     clear hC hC0
     by_cases hs1 : g.i = (q : Int)
     ·by_cases hs2 : dv < g.v
      ·rw [if_neg (fun h => h.2 hs2)] at hE
       have HE : Hid (yM dv P G = 4) := zA (by rw [HE0.out, HAt.out (by rw [hE]; decide), hE])
       have hd1 : (g.i != (q : Int)) = false := by simpa using hs1
       clear hE HAt HZ hs1
       go_wp2_with fail
       go_ret
       exact ⟨by rw [HE.out]; rfl, HK1.out.2.2⟩
      ·rw [if_pos ⟨hs1, hs2⟩] at hE
       have hd1 : (g.i != (q : Int)) = false := by simpa using hs1
       clear hs1
       have HT := zA (twiceK_any o1 o2 o3 n1 c1 c2 n3 c3 dv odd nd cdd (some A) G.length cg ov nv cv P g.i g.z g.s g.oa g.A g.ca g.v g.od g.D.length g.cd g.l g.u w1 (HP.out.below HK1.out.2.2) hlP (HGt.out.2.1.below HB1.out.2.2).ats hokA)
       generalize P.any (twiG g.i g.s g.A) = R at *
       have HE' := zA hE
       clear hE
       go_wp2_with fail
       refine HT.out.mono ?_
       rintro e w2 ⟨rfl, hb⟩
       have HK2 := zA (HK1.out.on hb)
       clear hb HT k0 k1 k2 k3 k4 k5 k6 b0 b1 b2 b3 b4 b5 b6 b7 HB1 HK1
       cases R
       ·have HZ2 : Hid (∀ i x, i < q + 1 → G[i]? = some x → gateE dv P (0 + i) x = 0) := zA (fun i x hi hx => by
         by_cases h : i = q
         ·subst h
          have h1 := HGt.out.1
          rw [h1] at hx
          cases hx
          have := HE'.out
          simpa using this
         ·exact HZ.out i x (by omega) hx)
        go_wp2_with fail
        exact ⟨⟨q + 1, by omega, by simp, HZ2, HK2⟩, by simp [intOf]; omega⟩
       ·have HE : Hid (yM dv P G = 6) := zA (by
         have h6 : gateE dv P (0 + q) g = 6 := by have := HE'.out; simpa using this
         rw [HE0.out, HAt.out (by rw [h6]; decide), h6])
        clear HAt HZ HE'
        go_wp2_with fail
        go_ret
        exact ⟨by rw [HE.out]; rfl, HK2.out.2.2⟩
     ·rw [if_neg (fun h => hs1 h.1)] at hE
      have HE : Hid (yM dv P G = 4) := zA (by rw [HE0.out, HAt.out (by rw [hE]; decide), hE])
      have hd1 : (g.i != (q : Int)) = true := by simpa using hs1
      clear hE HAt HZ hs1
      go_wp2_with fail
      go_ret
      exact ⟨by rw [HE.out]; rfl, HK1.out.2.2⟩
    ·have hCn : chkG g.i g.z g.s g.A g.v g.D g.l g.u ≠ 0 := by simpa using hC
     rw [if_neg hCn] at hE
     have HE : Hid (yM dv P G = chkG g.i g.z g.s g.A g.v g.D g.l g.u) := zA (by rw [HE0.out, HAt.out (by rw [hE]; exact hCn), hE])
     clear hE HAt HZ hCn
     generalize chkG g.i g.z g.s g.A g.v g.D g.l g.u = E at *
     go_wp2_with fail
     go_ret
     exact ⟨by rw [HE.out]; rfl, HK1.out.2.2⟩
   ·have HE : Hid (yM dv P G = 0) := zA (by
     rw [HE0.out]
     exact gatesF_zero dv P G 0 (fun i x hx => HZ.out i x (by have := (List.getElem?_eq_some_iff.1 hx).1; omega) hx))
    clear HZ
    go_wp2_with fail
    go_ret
    exact ⟨by rw [HE.out]; rfl, HKr.out.2.2⟩
 ·have hE : yM dv P G = 1 := if_neg h3
  rw [hE]
  have h3' : ((G.length : Int) != 3) = true := by simp; omega
  go_enter Tryz.func53, Tryz.ntmps53
  go_wp2_with fail
  go_ret
  exact ⟨rfl, HK.out.2.2⟩
theorem taps_of_led {w : World} {o1 o2 o3 : Option Addr} {n1 c1 c2 n3 c3 : Nat} {T : List TK} {P : List TP} {V : List Int} (h : LedV w (lg o1 o2 o3 n1 c1 P.length c2 n3 c3) T P V) : zD w o2 P := by
 obtain ⟨q1, d1, q2, d2, q3, d3, e, -, h2, -⟩ := h.opened
 simp at e
 obtain ⟨-, ⟨rfl, -⟩, -⟩ := e
 exact h2
def chkS (T : List TK) (P : List TP) (V : List Int) (dv : Int) (D : List Int) (G : List GT) (W : List VW) : Int :=
 if zQ T P V = 0 then (if yY dv D = 0 then (if yM dv P G = 0 then zO W else yM dv P G) else yY dv D) else zQ T P V
theorem stationCheck_any (T : List TK) (P : List TP) (V : List Int) (dv : Int) (D : List Int) (G : List GT) (W : List VW) (o1 o2 o3 od og ov : Option Addr) (c1 c2 c3 cd cg cv : Nat) (w : World)
  (hL : LedV w (lg o1 o2 o3 T.length c1 P.length c2 V.length c3) T P V) (hl : LensOk T P V) (hD : zF w od D) (hlD : D.length ≤ 9223372036854775807) (hG : zV w og G) (hok : GatesOk G) (hW : zJ w ov W) (hlW : W.length ≤ 9223372036854775807) :
  Calls Tryz.prog 19 #[stV o1 o2 o3 T.length c1 P.length c2 V.length c3 dv od D.length cd og G.length cg ov W.length cv] w fun e w' => e = .returned (.int .i64 (chkS T P V dv D G W)) ∧ Below w.heap.size w w' := by
 have HK := zA ((zM.nil w).more (.cells #[.slice o1 T.length c1, .slice o2 P.length c2, .slice o3 V.length c3, .int .i64 dv, .slice od D.length cd, .slice og G.length cg, .slice ov W.length cv] 32) (by simp))
 have HL := zA hL
 have HD := zA hD
 have HG := zA hG
 have HW := zA hW
 have HC1 := zA (fun X (h : LedV X (lg o1 o2 o3 T.length c1 P.length c2 V.length c3) T P V) => checkV h hl)
 have HC2 := zA (fun X (h : zF X od D) => denCheck_any dv D od cd X h hlD)
 have HC3 := zA (fun X (h : LedV X (lg o1 o2 o3 T.length c1 P.length c2 V.length c3) T P V) (h' : zV X og G) => checkGates_any o1 o2 o3 T.length c1 c2 V.length c3 dv od D.length cd og cg ov W.length cv P G X (taps_of_led h) hl.2.1 h' hok)
 have HC4 := zA (fun X (h : zJ X ov W) => leadCheck_any ov cv W X h hlW)
 clear hL hD hG hW
 unfold chkS
 generalize zQ T P V = E1 at *
 generalize yY dv D = E2 at *
 generalize yM dv P G = E3 at *
 generalize zO W = E4 at *
 obtain ⟨k0, k1, k2, k3, k4, k5, k6⟩ := HK.out.c7 0 w.heap.size rfl rfl rfl rfl rfl rfl rfl rfl rfl
 rcases h1 : (E1 != 0) with _ | _
 ·obtain rfl : E1 = 0 := by simpa using h1
  clear h1
  rw [if_pos rfl]
  rcases h2 : (E2 != 0) with _ | _
  ·obtain rfl : E2 = 0 := by simpa using h2
   clear h2
   rw [if_pos rfl]
   rcases h3 : (E3 != 0) with _ | _
   ·obtain rfl : E3 = 0 := by simpa using h3
    clear h3
    rw [if_pos rfl]
    go_enter Tryz.func19, Tryz.ntmps19
    go_wp2_with fail
    refine (HC1.out _ (HL.out.below HK.out.2.2)).mono ?_
    rintro e w1 ⟨rfl, hb⟩
    have HK1 := zA (HK.out.on hb)
    clear hb HK k0 k1 k2 k3 k4 k5 k6
    obtain ⟨k0, k1, k2, k3, k4, k5, k6⟩ := HK1.out.c7 0 w.heap.size rfl rfl rfl rfl rfl rfl rfl rfl rfl
    go_wp2_with fail
    refine (HC2.out _ (HD.out.below HK1.out.2.2)).mono ?_
    rintro e w2 ⟨rfl, hb⟩
    have HK2 := zA (HK1.out.on hb)
    clear hb HK1 k0 k1 k2 k3 k4 k5 k6
    obtain ⟨k0, k1, k2, k3, k4, k5, k6⟩ := HK2.out.c7 0 w.heap.size rfl rfl rfl rfl rfl rfl rfl rfl rfl
    go_wp2_with fail
    refine (HC3.out _ (HL.out.below HK2.out.2.2) (HG.out.below HK2.out.2.2)).mono ?_
    rintro e w3 ⟨rfl, hb⟩
    have HK3 := zA (HK2.out.on hb)
    clear hb HK2 k0 k1 k2 k3 k4 k5 k6
    obtain ⟨k0, k1, k2, k3, k4, k5, k6⟩ := HK3.out.c7 0 w.heap.size rfl rfl rfl rfl rfl rfl rfl rfl rfl
    go_wp2_with fail
    refine (HC4.out _ (HW.out.below HK3.out.2.2)).mono ?_
    rintro e w4 ⟨rfl, hb⟩
    have HK4 := zA (HK3.out.on hb)
    clear hb HK3 k0 k1 k2 k3 k4 k5 k6
    obtain ⟨k0, k1, k2, k3, k4, k5, k6⟩ := HK4.out.c7 0 w.heap.size rfl rfl rfl rfl rfl rfl rfl rfl rfl
    go_wp2_with fail
    go_ret
    exact ⟨rfl, HK4.out.2.2⟩
   ·rw [if_neg (by simpa using h3)]
    go_enter Tryz.func19, Tryz.ntmps19
    go_wp2_with fail
    refine (HC1.out _ (HL.out.below HK.out.2.2)).mono ?_
    rintro e w1 ⟨rfl, hb⟩
    have HK1 := zA (HK.out.on hb)
    clear hb HK k0 k1 k2 k3 k4 k5 k6
    obtain ⟨k0, k1, k2, k3, k4, k5, k6⟩ := HK1.out.c7 0 w.heap.size rfl rfl rfl rfl rfl rfl rfl rfl rfl
    go_wp2_with fail
    refine (HC2.out _ (HD.out.below HK1.out.2.2)).mono ?_
    rintro e w2 ⟨rfl, hb⟩
    have HK2 := zA (HK1.out.on hb)
    clear hb HK1 k0 k1 k2 k3 k4 k5 k6
    obtain ⟨k0, k1, k2, k3, k4, k5, k6⟩ := HK2.out.c7 0 w.heap.size rfl rfl rfl rfl rfl rfl rfl rfl rfl
    go_wp2_with fail
    refine (HC3.out _ (HL.out.below HK2.out.2.2) (HG.out.below HK2.out.2.2)).mono ?_
    rintro e w3 ⟨rfl, hb⟩
    have HK3 := zA (HK2.out.on hb)
    clear hb HK2 k0 k1 k2 k3 k4 k5 k6
    obtain ⟨k0, k1, k2, k3, k4, k5, k6⟩ := HK3.out.c7 0 w.heap.size rfl rfl rfl rfl rfl rfl rfl rfl rfl
    go_wp2_with fail
    go_ret
    exact ⟨rfl, HK3.out.2.2⟩
  ·rw [if_neg (by simpa using h2)]
   go_enter Tryz.func19, Tryz.ntmps19
   go_wp2_with fail
   refine (HC1.out _ (HL.out.below HK.out.2.2)).mono ?_
   rintro e w1 ⟨rfl, hb⟩
   have HK1 := zA (HK.out.on hb)
   clear hb HK k0 k1 k2 k3 k4 k5 k6
   obtain ⟨k0, k1, k2, k3, k4, k5, k6⟩ := HK1.out.c7 0 w.heap.size rfl rfl rfl rfl rfl rfl rfl rfl rfl
   go_wp2_with fail
   refine (HC2.out _ (HD.out.below HK1.out.2.2)).mono ?_
   rintro e w2 ⟨rfl, hb⟩
   have HK2 := zA (HK1.out.on hb)
   clear hb HK1 k0 k1 k2 k3 k4 k5 k6
   obtain ⟨k0, k1, k2, k3, k4, k5, k6⟩ := HK2.out.c7 0 w.heap.size rfl rfl rfl rfl rfl rfl rfl rfl rfl
   go_wp2_with fail
   go_ret
   exact ⟨rfl, HK2.out.2.2⟩
 ·rw [if_neg (by simpa using h1)]
  go_enter Tryz.func19, Tryz.ntmps19
  go_wp2_with fail
  refine (HC1.out _ (HL.out.below HK.out.2.2)).mono ?_
  rintro e w1 ⟨rfl, hb⟩
  have HK1 := zA (HK.out.on hb)
  clear hb HK k0 k1 k2 k3 k4 k5 k6
  obtain ⟨k0, k1, k2, k3, k4, k5, k6⟩ := HK1.out.c7 0 w.heap.size rfl rfl rfl rfl rfl rfl rfl rfl rfl
  go_wp2_with fail
  go_ret
  exact ⟨rfl, HK1.out.2.2⟩
theorem yX (x : GT) (L : List GT) : zL (x :: L) = x.cells ++ zL L := by simp [zL]
theorem cellsG_get : ∀ (L : List GT) (i : Nat) (g : GT), L[i]? = some g → ∀ j, j < 8 → (zL L)[i * 8 + j]? = g.cells[j]?
 | [], i, g, h, j, _ => by simp at h
 | x :: L, 0, g, h, j, hj => by
  simp at h
  subst h
  rw [yX, Nat.zero_mul, Nat.zero_add, List.getElem?_append_left (by simpa [GT.cells] using hj)]
 | x :: L, i + 1, g, h, j, hj => by
  have h8 : x.cells.length = 8 := rfl
  rw [yX, List.getElem?_append_right (by omega), h8, show (i + 1) * 8 + j - 8 = i * 8 + j by omega]
  exact cellsG_get L i g (by simpa using h) j hj
theorem gates_cells {w : World} {A : Addr} {L : List GT} (h : zV w (some A) L) : ∀ j u, (zL L)[j]? = some u → w.cell? (A.add j) = some u := by
 intro j u hu
 have hlt : j < L.length * 8 := by
  have := (List.getElem?_eq_some_iff.1 hu).1
  rwa [cellsG_len] at this
 have hi : j / 8 < L.length := by omega
 obtain ⟨g, hg⟩ : ∃ g, L[j / 8]? = some g := ⟨L[j / 8], by simp [hi]⟩
 obtain ⟨b, hb, h8, -, -⟩ := h (j / 8) g hg
 cases hb
 have hj := cellsG_get L (j / 8) g hg (j % 8) (by omega)
 rw [show j / 8 * 8 + j % 8 = j by omega, hu] at hj
 have ha : A.add j = if j % 8 = 0 then A.add (j / 8 * 8) else ⟨(A.add (j / 8 * 8)).block, (A.add (j / 8 * 8)).off + j % 8, none⟩ := by
  by_cases h1 : j % 8 = 0
  ·rw [if_pos h1]
   congr 1
   omega
  ·rw [if_neg h1]
   have hj0 : j ≠ 0 := by omega
   by_cases h2 : j / 8 * 8 = 0
   ·have hjj : j % 8 = j := by omega
    simp [Addr.add, h2, hj0, hjj]
   ·have hjj : j / 8 * 8 + j % 8 = j := by omega
    simp [Addr.add, h2, hj0, Nat.add_assoc, hjj]
 rw [ha]
 have hm : j % 8 < 8 := by omega
 obtain ⟨c0, c1, c2, c3, c4, c5, c6, c7⟩ := h8
 generalize j % 8 = m at *
 match m, hm with
 | 0, _ => simp [GT.cells] at hj; subst hj; simpa using c0
 | 1, _ => simp [GT.cells] at hj; subst hj; simpa using c1
 | 2, _ => simp [GT.cells] at hj; subst hj; simpa using c2
 | 3, _ => simp [GT.cells] at hj; subst hj; simpa using c3
 | 4, _ => simp [GT.cells] at hj; subst hj; simpa using c4
 | 5, _ => simp [GT.cells] at hj; subst hj; simpa using c5
 | 6, _ => simp [GT.cells] at hj; subst hj; simpa using c6
 | 7, _ => simp [GT.cells] at hj; subst hj; simpa using c7
structure GP where
 i : Int
 z : Int
 s : Int
 A : List TP
 v : Int
 D : List Int
 l : Int
 u : Int
def GT.p (g : GT) : GP := ⟨g.i, g.z, g.s, g.A, g.v, g.D, g.l, g.u⟩
theorem cellsG_set1 : ∀ (L : List GT) (q : Nat) (g g' : GT) (j : Nat) (v : Value), L[q]? = some g → j < 8 → g.cells.set j v = g'.cells → (zL L).set (q * 8 + j) v = zL (L.set q g')
 | [], q, g, g', j, v, h, _, _ => by simp at h
 | x :: L, 0, g, g', j, v, h, hj, hc => by
  simp at h
  subst h
  rw [yX, Nat.zero_mul, Nat.zero_add, List.set_append_left _ _ (by simpa [GT.cells] using hj), hc, List.set_cons_zero, yX]
 | x :: L, q + 1, g, g', j, v, h, hj, hc => by
  have h8 : x.cells.length = 8 := rfl
  rw [yX, List.set_append_right _ _ (by omega), h8, show (q + 1) * 8 + j - 8 = q * 8 + j by omega, cellsG_set1 L q g g' j v (by simpa using h) hj hc, List.set_cons_succ, yX]
theorem VwsV.set {w : World} {B : Nat} {v : Value} {L : List VW} (h : VwsV w v L) (hf : yD B v) {p : Addr} (hp : p.block < B) (u : Value) : VwsV (w.setCell p u) v L := by
 obtain ⟨o, c, rfl, h1, h2⟩ := h
 refine ⟨o, c, rfl, fun i x hi => ?_, h2⟩
 obtain ⟨b, rfl, a0, a1, a2⟩ := h1 i x hi
 have hB : B ≤ b.block := hf _ rfl
 exact ⟨b, rfl, at_set (by omega) a0, zR (by omega) a1, zR (by omega) a2⟩
theorem VwsV.eqs {w : World} {o : Option Addr} {n c : Nat} {L : List VW} (h : VwsV w (.slice o n c) L) : n = L.length ∧ zJ w o L ∧ L.length ≤ c ∧ (o = none → c = 0) := by
 obtain ⟨o', c', e, h1, h2, h3⟩ := h
 simp only [Value.slice.injEq] at e
 obtain ⟨rfl, rfl, rfl⟩ := e
 exact ⟨rfl, h1, h2, h3⟩
theorem own_addrZ (g k : Nat) : (⟨g, 0, none⟩ : Addr).add k = ⟨g, k, none⟩ := by
 by_cases h : k = 0
 ·subst h; simp [Addr.add]
 ·simp [Addr.add, h]
end
end Go.Proofs.YtdcojigjcebcpaaGreatDoor
