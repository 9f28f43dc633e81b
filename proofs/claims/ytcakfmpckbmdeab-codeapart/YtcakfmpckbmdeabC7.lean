/-
  The contracts of 'code.numberIn$1', 'code.numberIn'.
-/
import Derived.Test.YtcakfmpckbmdeabC6
import Derived.Test.YtcakfmpckbmdeabT6
namespace Go.Proofs.Ytcakfmpckbmdeab
open Go.RowKit

theorem enter42 (args : Array Value) (W : World) : (callFunc 89 args).run Try.prog W = .ok (.enter 89 args) W := by
  simp [go_sem]

/-- one cell of block b holds this, and may be written -/
structure One (w : World) (b : Nat) (x : Value) : Prop where
  c : w.cell? ⟨b, 0, none⟩ = some x
  z : w.frozen? ⟨b, 0, none⟩ = false
theorem One.kp {P : Nat → Prop} {w w' : World} {b : Nat} {x : Value} (h : One w b x) (hk : Kp P w w') (hb : ¬ P b) : One w' b x := by
  have hl : b < w.heap.size := World.block_lt_of_cell? w ⟨b, 0, none⟩ h.c
  exact ⟨by rw [hk.cell (p := ⟨b, 0, none⟩) hl hb]; exact h.c, by rw [hk.frozen (p := ⟨b, 0, none⟩) hl hb]; exact h.z⟩

set_option maxHeartbeats 1600000 in
set_option maxRecDepth 100000 in
theorem clo2_ok (p : Addr) (qb : Nat) (b : List UInt8) (c : UInt8) (l : List UInt8) (x : ByteArray) (w : World) (hb : b.length = 13)
    (hc : w.cell? p = some (S (b ++ c :: l))) (hz : w.frozen? p = false) (hq : One w qb (.string x)) (hne : qb ≠ p.block) :
    Calls Try.prog 89 #[.pointer (some p), .pointer (some ⟨qb, 0, none⟩)] w fun e w' => e = .returned (.tuple #[]) ∧ Kp (fun k => k = p.block ∨ k = qb) w w' ∧ w'.cell? p = some (S l) ∧ One w' qb (S b) := by
  obtain ⟨c0, z0⟩ := hq
  have n : ∀ o, (⟨qb, o, none⟩ : Addr) ≠ p := fun o e => hne (by rw [← e])
  have n' : ∀ o, p ≠ (⟨qb, o, none⟩ : Addr) := fun o e => hne (by rw [e])
  have HB := hide hb
  have HNE := hide hne
  have hsm : (w.cell? p).isSome = true := by rw [hc]; rfl
  clear hb hne
  go_enter Try.func89, Try.ntmps89
  go_wp2_with fail
  refine (take_ok p _ 13 _ hc hz (by have := HB.out; simp; omega) (by omega)).mono ?_
  rintro e w1 ⟨rfl, rfl⟩
  rw [List.take_append_of_le_length (by have := HB.out; omega), List.take_of_length_le (by have := HB.out; omega), List.drop_append_of_le_length (by have := HB.out; omega), List.drop_of_length_le (by have := HB.out; omega), List.nil_append]
  simp only [S]
  go_wp2_with fail
  refine (take_ok p (c :: l) 1 _ (by rw [cell_other (n _)]; exact cell_same hsm) (by simp only [World.frozen?_setCell, hz]) (by simp) (by omega)).mono ?_
  rintro e w1 ⟨rfl, rfl⟩
  rw [show (c :: l).drop 1 = l from rfl]
  go_wp2_with fail
  go_end0
  refine ⟨rfl, ?_, cell_same (some_set (some_set hsm)), ?_, ?_⟩
  · exact Kp.setCell (S := fun k => k = p.block ∨ k = qb) (Kp.setCell (Kp.setCell (Kp.refl _ _) (Or.inl (Or.inl rfl)) _) (Or.inl (Or.inr rfl)) _) (Or.inl (Or.inl rfl)) _
  · rw [cell_other (n' _)]
    exact cell_same (some_set (by rw [c0]; rfl))
  · simp only [World.frozen?_setCell, z0]

set_option maxHeartbeats 1600000 in
set_option maxRecDepth 100000 in
theorem clo2_no (p : Addr) (qb : Nat) (l : List UInt8) (x : ByteArray) (w : World) (hl : l.length < 14)
    (hc : w.cell? p = some (S l)) (hz : w.frozen? p = false) (hq : One w qb (.string x)) (hne : qb ≠ p.block) :
    Calls Try.prog 89 #[.pointer (some p), .pointer (some ⟨qb, 0, none⟩)] w fun e w' => e = .panicked [gone] ∧ Kp (fun k => k = p.block ∨ k = qb) w w' := by
  obtain ⟨c0, z0⟩ := hq
  have n : ∀ o, (⟨qb, o, none⟩ : Addr) ≠ p := fun o e => hne (by rw [← e])
  have n' : ∀ o, p ≠ (⟨qb, o, none⟩ : Addr) := fun o e => hne (by rw [e])
  have HL := hide hl
  have HNE := hide hne
  have hsm : (w.cell? p).isSome = true := by rw [hc]; rfl
  clear hl hne
  by_cases h13 : l.length < 13
  · have H13 := hide h13
    clear h13
    go_enter Try.func89, Try.ntmps89
    go_wp2_with fail
    refine (take_no p _ 13 _ hc H13.out (by omega)).mono ?_
    rintro e w1 ⟨rfl, rfl⟩
    go_wp2_with fail
    exact ⟨rfl, rfl, Kp.refl _ _⟩
  · have H13 := hide h13
    clear h13
    go_enter Try.func89, Try.ntmps89
    go_wp2_with fail
    refine (take_ok p _ 13 _ hc hz (by have := unhide H13; omega) (by omega)).mono ?_
    rintro e w1 ⟨rfl, rfl⟩
    rw [List.drop_of_length_le (by have := HL.out; omega)]
    simp only [S]
    go_wp2_with fail
    refine (take_no p [] 1 _ (by rw [cell_other (n _)]; exact cell_same hsm) (by simp) (by omega)).mono ?_
    rintro e w1 ⟨rfl, rfl⟩
    go_wp2_with fail
    exact ⟨rfl, rfl, Kp.setCell (S := fun k => k = p.block ∨ k = qb) (Kp.setCell (Kp.refl _ _) (Or.inl (Or.inl rfl)) _) (Or.inl (Or.inr rfl)) _⟩

/-- the number that values are by base 31, wrapped round at 64 bits -/
def wn (vs : List Nat) : Nat := vs.foldl (fun n v => (n * 31 + v) % 18446744073709551616) 0
theorem wn_snoc (vs : List Nat) (v : Nat) : wn (vs ++ [v]) = (wn vs * 31 + v) % 18446744073709551616 := by simp [wn]
theorem wn_lt (vs : List Nat) : wn vs < 18446744073709551616 := by
  rcases List.eq_nil_or_concat vs with rfl | ⟨l, v, rfl⟩
  · decide
  · rw [List.concat_eq_append, wn_snoc]; exact Nat.mod_lt _ (by omega)

/-- what numberIn says of a text -/
def nin (l : List UInt8) : Option Nat := if l.length = 14 then (vals (l.take 13)).map wn else none

theorem one_new (w : World) (x : Value) (T : TypeId) {n : Nat} (hn : n = w.heap.size) : One (w.alloc (.cells #[x] T)) n x := by
  subst hn; exact ⟨by simp [go_sem], by simp [go_sem]⟩

set_option maxHeartbeats 1600000 in
set_option maxRecDepth 100000 in
theorem numberIn_none (s : ByteArray) (w : World) (h : s.data.toList.length ≠ 14) :
    Calls Try.prog 68 #[.string s] w fun e w' => e = .returned (.tuple #[.int .u64 0, .bool false]) ∧ Below w.heap.size w w' := by
  have hmf : ∀ (fn : Fn) (first cap : Array Value) (w : World), (Instr.makeFunc fn first cap).run Try.prog w = .ok (.func fn first cap) w := fun _ _ _ _ => rfl
  by_cases hl : s.data.toList.length < 14
  · have HL := hide hl
    clear hl h
    go_enter Try.func68, Try.ntmps68
    go_wp2_with fail
    refine (whole_pan 89 w.heap.size s _ enter42 (by simp) (fun p W hp hc hz hk hl => ?_)).mono ?_
    · exact clo2_no p w.heap.size s.data.toList ⟨#[]⟩ W HL.out (by rw [← S_of]; exact hc) hz ((one_new w _ 9 rfl).kp hk (fun h => h)) (by rw [hp]; simp; omega)
    rintro e w1 ⟨rfl, hk⟩
    have hB : Below w.heap.size w w1 := (Kp.next (S := fun _ => False) (Kp.alloc (Kp.refl _ _) _) hk (fun i hi h => by omega)).below (Nat.le_refl _) (fun _ _ h => h)
    go_wp2_with fail
    go_ret2
    exact ⟨rfl, hB⟩
  · obtain ⟨b, c, d, l, hbl, hs⟩ : ∃ (b : List UInt8) (c d : UInt8) (l : List UInt8), b.length = 13 ∧ s.data.toList = b ++ c :: d :: l := by
      have h1 : s.data.toList = s.data.toList.take 13 ++ s.data.toList.drop 13 := (List.take_append_drop 13 _).symm
      have h2 : 2 ≤ (s.data.toList.drop 13).length := by rw [List.length_drop]; omega
      match hd : s.data.toList.drop 13, h2 with
      | c :: d :: l, _ => exact ⟨s.data.toList.take 13, c, d, l, by rw [List.length_take]; omega, by rw [← hd]; exact h1⟩
    have HS := hide hs
    have HBL := hide hbl
    clear hl h hs hbl
    go_enter Try.func68, Try.ntmps68
    go_wp2_with fail
    refine (whole_ret 89 w.heap.size s ⟨(d :: l).toArray⟩ (fun W => One W w.heap.size (S b)) _ enter42 (fun w1 w2 hk hlt h => h.kp hk (by simp)) (by simp) (fun p W hp hc hz hk hl => ?_)).mono ?_
    · exact clo2_ok p w.heap.size b c (d :: l) ⟨#[]⟩ W HBL.out (by rw [← HS.out, ← S_of]; exact hc) hz ((one_new w _ 9 rfl).kp hk (fun h => h)) (by rw [hp]; simp; omega)
    rintro e w1 ⟨rfl, hk, hr⟩
    have hB : Below w.heap.size w w1 := (Kp.next (S := fun _ => False) (Kp.alloc (Kp.refl _ _) _) hk (fun i hi h => by omega)).below (Nat.le_refl _) (fun _ _ h => h)
    rw [toList_mk, List.isEmpty_cons]
    clear hr
    go_wp2_with fail
    go_ret2
    exact ⟨rfl, hB⟩
end Go.Proofs.Ytcakfmpckbmdeab
