/-
  The contracts of 'octet.Number', 'Reader.Take', 'Reader.Number'.
-/
import Derived.Test.YtcakfmpckbmdeabT2
import Derived.WalkLawsBesides
namespace Go.Proofs.Ytcakfmpckbmdeab
open Go.RowKit

/-- the number that bytes are, the greatest first -/
def num (l : List UInt8) : Nat := l.foldl (fun a b => a * 256 + b.toNat) 0
theorem num_snoc (l : List UInt8) (b : UInt8) : num (l ++ [b]) = num l * 256 + b.toNat := by simp [num]
theorem num_nil : num [] = 0 := rfl
theorem take_snoc (s : ByteArray) (k : Nat) (h : k < s.size) : s.data.toList.take (k + 1) = s.data.toList.take k ++ [s[k]] := by
  rw [List.take_succ_eq_append_getElem (by simpa using h)]; rfl
theorem num_take (s : ByteArray) (k : Nat) (h : k < s.size) : num (s.data.toList.take (k + 1)) = num (s.data.toList.take k) * 256 + s[k].toNat := by
  rw [take_snoc s k h, num_snoc]
theorem num_lt (s : ByteArray) (k : Nat) (h : k ≤ s.size) : num (s.data.toList.take k) < 256 ^ k := by
  induction k with
  | zero => simp [num]
  | succ k ih =>
    rw [num_take s k (by omega), Nat.pow_succ]
    have := ih (by omega)
    have := (s[k]).toNat_lt
    omega

theorem wrapu64 (n : Int) (h₀ : 0 ≤ n) (h₁ : n < 18446744073709551616) : IntKind.u64.wrap n = n := by rw [IntKind.wrap_u64]; omega
theorem or_byte (a b : Nat) (ha : a < 72057594037927936) (hb : b < 256) : bits .or .u64 ((a : Int) * 256) (IntKind.u64.wrap (b : Int)) = ((a * 256 + b : Nat) : Int) := by
  rw [wrapu64 _ (by omega) (by omega)]
  have h := bits_join .u64 64 (by decide) (fun n h₀ h₁ => wrapu64 n h₀ (by simpa using h₁)) 8 (x := (a : Int) * 256) (y := (b : Int)) (by omega) (by simp) (by simp; omega) (by omega) (by simp; omega) (by simp; omega)
  rw [h]; simp

set_option maxHeartbeats 800000 in
set_option maxRecDepth 100000 in
theorem number_any (s : ByteArray) (w : World) (hs : s.size ≤ 8) :
    Calls Try.prog 32 #[.string s] w fun e w' => e = .returned (.int .u64 (num s.data.toList : Int)) ∧ w' = w := by
  go_enter Try.func32, Try.ntmps32
  go_wp2
  go_loop [3, 7] (fun n i => ∃ k : Nat, k ≤ s.size ∧ i = .int .i64 k ∧ n = .int .u64 (num (s.data.toList.take k) : Int)) (fun _ i => s.size - (intOf i).toNat)
  case atStart => exact ⟨0, Nat.zero_le _, rfl, rfl⟩
  case round =>
    obtain ⟨k, hk, rfl, rfl⟩ := hrel
    by_cases hlt : k < s.size
    · have hb := num_lt s k hk
      have h7 : 256 ^ k ≤ 256 ^ 7 := Nat.pow_le_pow_right (by omega) (by omega)
      have hb7 : num (s.data.toList.take k) < 72057594037927936 := by simp at h7; omega
      clear hb h7
      go_wp2
      refine ⟨⟨k + 1, by omega, by go_num, ?_⟩, by simp [intOf]; omega⟩
      rw [num_take s k hlt, or_byte _ _ hb7 (s[k]).toNat_lt]
    · go_wp2
      go_ret
      exact ⟨by rw [List.take_of_length_le (by simp; omega)]; rfl, rfl⟩

/-- the value that 'octet' panics with where bytes are not there -/
abbrev gone : PanicEntry := { v := .iface 124 (.agg #[]), recovered := false }

/-- a text of bytes -/
def S (l : List UInt8) : Value := .string ⟨l.toArray⟩
theorem S_of (s : ByteArray) : Value.string s = S s.data.toList := by cases s; simp [S]
theorem ext_take (l : List UInt8) (n : Nat) : (⟨l.toArray⟩ : ByteArray).extract 0 n = ⟨(l.take n).toArray⟩ := by
  rw [ByteArray.extract_mk]; simp
theorem ext_drop (l : List UInt8) (n : Nat) : (⟨l.toArray⟩ : ByteArray).extract n (⟨l.toArray⟩ : ByteArray).size = ⟨(l.drop n).toArray⟩ := by
  rw [ByteArray.extract_mk]; simp [ByteArray.size]
  exact List.take_of_length_le (by simp)

set_option maxRecDepth 100000 in
theorem take_raw (p : Addr) (s : ByteArray) (n : Nat) (w : World) (hc : w.cell? p = some (.string s)) (hz : w.frozen? p = false) (h : n ≤ s.size) (_hn : n ≤ 20) :
    Calls Try.prog 90 #[.pointer (some p), .int .i64 (n : Int)] w fun e w' => e = .returned (.string (s.extract 0 n)) ∧ w' = w.setCell p (.string (s.extract n s.size)) := by
  go_enter Try.func90, Try.ntmps90
  go_wp2
  go_ret
  exact ⟨rfl, rfl⟩

theorem take_ok (p : Addr) (l : List UInt8) (n : Nat) (w : World) (hc : w.cell? p = some (S l)) (hz : w.frozen? p = false) (h : n ≤ l.length) (hn : n ≤ 20) :
    Calls Try.prog 90 #[.pointer (some p), .int .i64 (n : Int)] w fun e w' => e = .returned (S (l.take n)) ∧ w' = w.setCell p (S (l.drop n)) := by
  refine (take_raw p ⟨l.toArray⟩ n w hc hz (by simpa [ByteArray.size] using h) hn).mono ?_
  rintro e w1 ⟨rfl, rfl⟩
  rw [ext_take, ext_drop]
  exact ⟨rfl, rfl⟩

set_option maxRecDepth 100000 in
theorem take_raw_no (p : Addr) (s : ByteArray) (n : Nat) (w : World) (hc : w.cell? p = some (.string s)) (h : s.size < n) (_hn : n ≤ 20) :
    Calls Try.prog 90 #[.pointer (some p), .int .i64 (n : Int)] w fun e w' => e = .panicked [gone] ∧ w' = w := by
  go_enter Try.func90, Try.ntmps90
  go_wp2
  exact ⟨rfl, rfl, rfl⟩

theorem take_no (p : Addr) (l : List UInt8) (n : Nat) (w : World) (hc : w.cell? p = some (S l)) (h : l.length < n) (hn : n ≤ 20) :
    Calls Try.prog 90 #[.pointer (some p), .int .i64 (n : Int)] w fun e w' => e = .panicked [gone] ∧ w' = w :=
  take_raw_no p ⟨l.toArray⟩ n w hc (by simpa [ByteArray.size] using h) hn

theorem number_l (l : List UInt8) (w : World) (hs : l.length ≤ 8) :
    Calls Try.prog 32 #[S l] w fun e w' => e = .returned (.int .u64 (num l : Int)) ∧ w' = w := by
  have h := number_any ⟨l.toArray⟩ w (by simpa [ByteArray.size] using hs)
  simpa [S] using h

set_option maxRecDepth 100000 in
theorem rnum_ok (p : Addr) (l : List UInt8) (n : Nat) (w : World) (hc : w.cell? p = some (S l)) (hz : w.frozen? p = false) (h : n ≤ l.length) (hn : n ≤ 8) :
    Calls Try.prog 97 #[.pointer (some p), .int .i64 (n : Int)] w fun e w' => e = .returned (.int .u64 (num (l.take n) : Int)) ∧ w' = w.setCell p (S (l.drop n)) := by
  go_enter Try.func97, Try.ntmps97
  go_wp2_with fail
  refine (take_ok p l n _ hc hz h (by omega)).mono ?_
  rintro e w1 ⟨rfl, rfl⟩
  go_wp2_with fail
  refine (number_l _ _ (by simp; omega)).mono ?_
  rintro e w1 ⟨rfl, rfl⟩
  go_wp2_with fail
  go_ret
  exact ⟨rfl, rfl⟩

set_option maxRecDepth 100000 in
theorem rnum_no (p : Addr) (l : List UInt8) (n : Nat) (w : World) (hc : w.cell? p = some (S l)) (h : l.length < n) (hn : n ≤ 8) :
    Calls Try.prog 97 #[.pointer (some p), .int .i64 (n : Int)] w fun e w' => e = .panicked [gone] ∧ w' = w := by
  go_enter Try.func97, Try.ntmps97
  go_wp2_with fail
  refine (take_no p l n _ hc h (by omega)).mono ?_
  rintro e w1 ⟨rfl, rfl⟩
  go_wp2_with fail
  exact ⟨rfl, rfl, rfl⟩

/-- all blocks that were there, but those in S, are as they were -/
structure Kp (S : Nat → Prop) (w w' : World) : Prop where
  os : w'.os = w.os
  tape : w'.tape = w.tape
  output : w'.output = w.output
  size : w.heap.size ≤ w'.heap.size
  block : ∀ k, k < w.heap.size → ¬ S k → w'.heap[k]? = w.heap[k]?

theorem Kp.refl (S : Nat → Prop) (w : World) : Kp S w w := ⟨rfl, rfl, rfl, Nat.le_refl _, fun _ _ _ => rfl⟩
theorem Kp.trans {S : Nat → Prop} {a b c : World} (h : Kp S a b) (k : Kp S b c) : Kp S a c :=
  ⟨k.os.trans h.os, k.tape.trans h.tape, k.output.trans h.output, Nat.le_trans h.size k.size, fun i hi hs => (k.block i (Nat.lt_of_lt_of_le hi h.size) hs).trans (h.block i hi hs)⟩
theorem Kp.next {S T : Nat → Prop} {a b c : World} (h : Kp S a b) (k : Kp T b c) (hT : ∀ i, i < a.heap.size → T i → S i) : Kp S a c :=
  ⟨k.os.trans h.os, k.tape.trans h.tape, k.output.trans h.output, Nat.le_trans h.size k.size, fun i hi hs => (k.block i (Nat.lt_of_lt_of_le hi h.size) (fun ht => hs (hT i hi ht))).trans (h.block i hi hs)⟩
theorem Kp.mono {S T : Nat → Prop} {a b : World} (h : Kp S a b) (hst : ∀ k, k < a.heap.size → S k → T k) : Kp T a b :=
  ⟨h.os, h.tape, h.output, h.size, fun k hk ht => h.block k hk (fun hs => ht (hst k hk hs))⟩
theorem Kp.alloc {S : Nat → Prop} {a w : World} (h : Kp S a w) (o : Obj) : Kp S a (w.alloc o) :=
  h.trans ⟨rfl, rfl, rfl, by simp, fun k hk _ => Below.heap_alloc _ _ _ hk⟩
theorem Kp.setCell {S : Nat → Prop} {a w : World} (h : Kp S a w) {p : Addr} (hp : S p.block ∨ a.heap.size ≤ p.block) (u : Value) : Kp S a (w.setCell p u) :=
  ⟨h.os, h.tape, h.output, by simpa [World.setCell] using h.size, fun k hk hs => by
    rw [Below.heap_setCell _ _ _ _ (fun e => by subst e; rcases hp with hp | hp; exact hs hp; omega)]
    exact h.block k hk hs⟩
theorem Kp.drew {S : Nat → Prop} {a w : World} (h : Kp S a w) : Kp S a w.drew := ⟨h.os, h.tape, h.output, h.size, h.block⟩
theorem Kp.ofBelow {S : Nat → Prop} {a w : World} (h : Below a.heap.size a w) : Kp S a w := ⟨h.os, h.tape, h.output, h.size, fun k hk _ => h.block k hk⟩
theorem Kp.below {S : Nat → Prop} {a w : World} (h : Kp S a w) {B : Nat} (hB : B ≤ a.heap.size) (hS : ∀ k, k < B → ¬ S k) : Below B a w :=
  ⟨h.os, h.tape, h.output, h.size, fun k hk => h.block k (Nat.lt_of_lt_of_le hk hB) (hS k hk)⟩
theorem Kp.cell {S : Nat → Prop} {a w : World} (h : Kp S a w) {p : Addr} (hp : p.block < a.heap.size) (hs : ¬ S p.block) : w.cell? p = a.cell? p := World.cell?_of_block (w := a) (h.block p.block hp hs)
theorem Kp.frozen {S : Nat → Prop} {a w : World} (h : Kp S a w) {p : Addr} (hp : p.block < a.heap.size) (hs : ¬ S p.block) : w.frozen? p = a.frozen? p := World.frozen?_of_block (w := a) (h.block p.block hp hs)
end Go.Proofs.Ytcakfmpckbmdeab
