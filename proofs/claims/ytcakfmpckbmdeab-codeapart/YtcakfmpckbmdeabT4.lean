/-
  The contracts of 'ticket.read', 'ticket.Decode$1', 'octet.Whole$1', 'octet.Whole', 'ticket.Decode'.
-/
import Derived.Test.YtcakfmpckbmdeabT3
import Derived.Defers
import Derived.Recover
namespace Go.Proofs.Ytcakfmpckbmdeab
open Go.RowKit

theorem ne_of_block {p : Addr} {n : Nat} (h : p.block < n) : (∀ o, p ≠ ⟨n, o, none⟩) ∧ (∀ o, (⟨n, o, none⟩ : Addr) ≠ p) :=
  ⟨fun o e => by subst e; exact Nat.lt_irrefl _ h, fun o e => by subst e; exact Nat.lt_irrefl _ h⟩

theorem some_set {w : World} {p q : Addr} {v : Value} (h : (w.cell? p).isSome = true) : ((w.setCell q v).cell? p).isSome = true := by
  obtain ⟨u, hu⟩ := Option.isSome_iff_exists.1 h
  obtain ⟨v', hv⟩ := cell?_setCell_some (p := q) (x := v) hu
  rw [hv]; rfl

theorem some_alloc {w : World} {p : Addr} {o : Obj} (h : (w.cell? p).isSome = true) : ((w.alloc o).cell? p).isSome = true := by
  obtain ⟨u, hu⟩ := Option.isSome_iff_exists.1 h
  rw [World.cell?_alloc_lt _ _ _ (World.block_lt_of_cell? w _ hu)]; exact h
theorem cell_same {w : World} {p : Addr} {v : Value} (h : (w.cell? p).isSome = true) : (w.setCell p v).cell? p = some v := World.cell?_setCell_same' w p v h

theorem cell_other {w : World} {a b : Addr} {v : Value} (h : a ≠ b) : (w.setCell a v).cell? b = w.cell? b := by
  apply World.cell?_setCell_other; exact h

theorem num1 (a : UInt8) : num [a] < 256 := by simp [num]; exact a.toNat_lt
theorem num2 (a b : UInt8) : num [a, b] < 65536 := by simp [num]; have := a.toNat_lt; have := b.toNat_lt; omega

set_option maxHeartbeats 1600000 in
set_option maxRecDepth 100000 in
theorem read_ok (p : Addr) (b0 b1 b2 b3 b4 b5 b6 b7 : UInt8) (l : List UInt8) (w : World) (hc : w.cell? p = some (S (b0 :: b1 :: b2 :: b3 :: b4 :: b5 :: b6 :: b7 :: l))) (hz : w.frozen? p = false) :
    Calls Try.prog 92 #[.pointer (some p)] w fun e w' => e = .returned (tk (num [b0, b1]) ((num [b6] : Int) / 16) (num [b2, b3]) (num [b4, b5]) ((num [b6] : Int) % 16) (num [b7])) ∧ Kp (fun k => k = p.block) w w' ∧ w'.cell? p = some (S l) := by
  have hpb : p.block < w.heap.size := World.block_lt_of_cell? w _ hc
  obtain ⟨n1, n2⟩ := ne_of_block (n := w.heap.size) hpb
  obtain ⟨n3, n4⟩ := ne_of_block (n := w.heap.size + 1) (Nat.lt_succ_of_lt hpb)
  have hsm : (w.cell? p).isSome = true := by rw [hc]; rfl
  have h01 := num2 b0 b1
  have h23 := num2 b2 b3
  have h45 := num2 b4 b5
  have h6 := num1 b6
  have h7 := num1 b7
  go_enter Try.func92, Try.ntmps92
  go_wp2_with fail
  refine (rnum_ok p _ 2 _ (by simp [go_sem, hc, hpb]; rfl) (by simp [go_sem, hz, frozen?_alloc_cells]) (by simp) (by omega)).mono ?_
  rintro e w1 ⟨rfl, rfl⟩
  go_wp2_with fail
  refine (rnum_ok p (b2 :: b3 :: b4 :: b5 :: b6 :: b7 :: l) 2 _ (by rw [cell_other (n4 _)]; exact cell_same (by repeat (first | with_reducible exact hsm | with_reducible refine some_set ?_ | with_reducible refine some_alloc ?_))) (by simp only [World.frozen?_setCell, frozen?_alloc_cells, hz]) (by simp) (by omega)).mono ?_
  rintro e w1 ⟨rfl, rfl⟩
  go_wp2_with fail
  refine (rnum_ok p (b4 :: b5 :: b6 :: b7 :: l) 2 _ (by rw [cell_other (n4 _)]; exact cell_same (by repeat (first | with_reducible exact hsm | with_reducible refine some_set ?_ | with_reducible refine some_alloc ?_))) (by simp only [World.frozen?_setCell, frozen?_alloc_cells, hz]) (by simp) (by omega)).mono ?_
  rintro e w1 ⟨rfl, rfl⟩
  go_wp2_with fail
  refine (rnum_ok p (b6 :: b7 :: l) 1 _ (by rw [cell_other (n4 _)]; exact cell_same (by repeat (first | with_reducible exact hsm | with_reducible refine some_set ?_ | with_reducible refine some_alloc ?_))) (by simp only [World.frozen?_setCell, frozen?_alloc_cells, hz]) (by simp) (by omega)).mono ?_
  rintro e w1 ⟨rfl, rfl⟩
  go_wp2_with fail
  refine (rnum_ok p (b7 :: l) 1 _ (by rw [cell_other (n4 _), cell_other (n4 _)]; exact cell_same (by repeat (first | with_reducible exact hsm | with_reducible refine some_set ?_ | with_reducible refine some_alloc ?_))) (by simp only [World.frozen?_setCell, frozen?_alloc_cells, hz]) (by simp) (by omega)).mono ?_
  rintro e w1 ⟨rfl, rfl⟩
  go_wp2_with fail
  refine bodyPost_ret (v := tk (num [b0, b1]) ((num [b6] : Int) / 16) (num [b2, b3]) (num [b4, b5]) ((num [b6] : Int) % 16) (num [b7])) (by simp [results, Try.results92, go_sem, n1]) rfl ⟨rfl, ?_, ?_⟩
  · repeat (first | with_reducible exact Kp.refl _ _ | with_reducible refine Kp.alloc ?_ _ | with_reducible refine Kp.setCell ?_ (by first | with_reducible exact Or.inl rfl | (right; simp)) _)
  · repeat (first | rw [cell_other (n2 _)] | rw [cell_other (n4 _)])
    exact cell_same (by repeat (first | with_reducible exact hsm | with_reducible refine some_set ?_ | with_reducible refine some_alloc ?_))

set_option maxHeartbeats 1600000 in
set_option maxRecDepth 100000 in
theorem read_no (p : Addr) (l : List UInt8) (w : World) (hc : w.cell? p = some (S l)) (hz : w.frozen? p = false) (hl : l.length < 8) :
    Calls Try.prog 92 #[.pointer (some p)] w fun e w' => e = .panicked [gone] ∧ Kp (fun k => k = p.block) w w' := by
  have hpb : p.block < w.heap.size := World.block_lt_of_cell? w _ hc
  obtain ⟨n1, n2⟩ := ne_of_block (n := w.heap.size) hpb
  obtain ⟨n3, n4⟩ := ne_of_block (n := w.heap.size + 1) (Nat.lt_succ_of_lt hpb)
  have hsm : (w.cell? p).isSome = true := by rw [hc]; rfl
  by_cases h2 : l.length < 2
  · go_enter Try.func92, Try.ntmps92
    go_wp2_with fail
    refine (rnum_no p l 2 _ (by simp [go_sem, hc, hpb]) h2 (by omega)).mono ?_
    rintro e w1 ⟨rfl, rfl⟩
    go_wp2_with fail
    refine ⟨rfl, rfl, ?_⟩
    repeat (first | with_reducible exact Kp.refl _ _ | with_reducible refine Kp.alloc ?_ _ | with_reducible refine Kp.setCell ?_ (by first | with_reducible exact Or.inl rfl | (right; simp)) _)
  obtain ⟨b0, b1, l, rfl⟩ : ∃ a b t, l = a :: b :: t := by
    match l, h2 with
    | a :: b :: t, _ => exact ⟨a, b, t, rfl⟩
    | [_], h => simp at h
    | [], h => simp at h
  clear h2
  simp only [List.length_cons] at hl
  have h01 := num2 b0 b1
  by_cases h2 : l.length < 2
  · go_enter Try.func92, Try.ntmps92
    go_wp2_with fail
    refine (rnum_ok p _ 2 _ (by simp [go_sem, hc, hpb]; rfl) (by simp [go_sem, hz, frozen?_alloc_cells]) (by simp) (by omega)).mono ?_
    rintro e w1 ⟨rfl, rfl⟩
    go_wp2_with fail
    refine (rnum_no p l 2 _ (by rw [cell_other (n4 _)]; exact cell_same (by repeat (first | with_reducible exact hsm | with_reducible refine some_set ?_ | with_reducible refine some_alloc ?_))) h2 (by omega)).mono ?_
    rintro e w1 ⟨rfl, rfl⟩
    go_wp2_with fail
    refine ⟨rfl, rfl, ?_⟩
    repeat (first | with_reducible exact Kp.refl _ _ | with_reducible refine Kp.alloc ?_ _ | with_reducible refine Kp.setCell ?_ (by first | with_reducible exact Or.inl rfl | (right; simp)) _)
  obtain ⟨b2, b3, l, rfl⟩ : ∃ a b t, l = a :: b :: t := by
    match l, h2 with
    | a :: b :: t, _ => exact ⟨a, b, t, rfl⟩
    | [_], h => simp at h
    | [], h => simp at h
  clear h2
  simp only [List.length_cons] at hl
  have h23 := num2 b2 b3
  by_cases h2 : l.length < 2
  · go_enter Try.func92, Try.ntmps92
    go_wp2_with fail
    refine (rnum_ok p _ 2 _ (by simp [go_sem, hc, hpb]; rfl) (by simp [go_sem, hz, frozen?_alloc_cells]) (by simp) (by omega)).mono ?_
    rintro e w1 ⟨rfl, rfl⟩
    go_wp2_with fail
    refine (rnum_ok p (b2 :: b3 :: l) 2 _ (by rw [cell_other (n4 _)]; exact cell_same (by repeat (first | with_reducible exact hsm | with_reducible refine some_set ?_ | with_reducible refine some_alloc ?_))) (by simp only [World.frozen?_setCell, frozen?_alloc_cells, hz]) (by simp) (by omega)).mono ?_
    rintro e w1 ⟨rfl, rfl⟩
    go_wp2_with fail
    refine (rnum_no p l 2 _ (by rw [cell_other (n4 _)]; exact cell_same (by repeat (first | with_reducible exact hsm | with_reducible refine some_set ?_ | with_reducible refine some_alloc ?_))) h2 (by omega)).mono ?_
    rintro e w1 ⟨rfl, rfl⟩
    go_wp2_with fail
    refine ⟨rfl, rfl, ?_⟩
    repeat (first | with_reducible exact Kp.refl _ _ | with_reducible refine Kp.alloc ?_ _ | with_reducible refine Kp.setCell ?_ (by first | with_reducible exact Or.inl rfl | (right; simp)) _)
  obtain ⟨b4, b5, l, rfl⟩ : ∃ a b t, l = a :: b :: t := by
    match l, h2 with
    | a :: b :: t, _ => exact ⟨a, b, t, rfl⟩
    | [_], h => simp at h
    | [], h => simp at h
  clear h2
  simp only [List.length_cons] at hl
  have h45 := num2 b4 b5
  by_cases h2 : l.length < 1
  · go_enter Try.func92, Try.ntmps92
    go_wp2_with fail
    refine (rnum_ok p _ 2 _ (by simp [go_sem, hc, hpb]; rfl) (by simp [go_sem, hz, frozen?_alloc_cells]) (by simp) (by omega)).mono ?_
    rintro e w1 ⟨rfl, rfl⟩
    go_wp2_with fail
    refine (rnum_ok p (b2 :: b3 :: b4 :: b5 :: l) 2 _ (by rw [cell_other (n4 _)]; exact cell_same (by repeat (first | with_reducible exact hsm | with_reducible refine some_set ?_ | with_reducible refine some_alloc ?_))) (by simp only [World.frozen?_setCell, frozen?_alloc_cells, hz]) (by simp) (by omega)).mono ?_
    rintro e w1 ⟨rfl, rfl⟩
    go_wp2_with fail
    refine (rnum_ok p (b4 :: b5 :: l) 2 _ (by rw [cell_other (n4 _)]; exact cell_same (by repeat (first | with_reducible exact hsm | with_reducible refine some_set ?_ | with_reducible refine some_alloc ?_))) (by simp only [World.frozen?_setCell, frozen?_alloc_cells, hz]) (by simp) (by omega)).mono ?_
    rintro e w1 ⟨rfl, rfl⟩
    go_wp2_with fail
    refine (rnum_no p l 1 _ (by rw [cell_other (n4 _)]; exact cell_same (by repeat (first | with_reducible exact hsm | with_reducible refine some_set ?_ | with_reducible refine some_alloc ?_))) h2 (by omega)).mono ?_
    rintro e w1 ⟨rfl, rfl⟩
    go_wp2_with fail
    refine ⟨rfl, rfl, ?_⟩
    repeat (first | with_reducible exact Kp.refl _ _ | with_reducible refine Kp.alloc ?_ _ | with_reducible refine Kp.setCell ?_ (by first | with_reducible exact Or.inl rfl | (right; simp)) _)
  obtain ⟨b6, l, rfl⟩ : ∃ a t, l = a :: t := by
    match l, h2 with
    | a :: t, _ => exact ⟨a, t, rfl⟩
    | [], h => simp at h
  clear h2
  simp only [List.length_cons] at hl
  have h6 := num1 b6
  have h2 : l.length < 1 := by omega
  go_enter Try.func92, Try.ntmps92
  go_wp2_with fail
  refine (rnum_ok p _ 2 _ (by simp [go_sem, hc, hpb]; rfl) (by simp [go_sem, hz, frozen?_alloc_cells]) (by simp) (by omega)).mono ?_
  rintro e w1 ⟨rfl, rfl⟩
  go_wp2_with fail
  refine (rnum_ok p (b2 :: b3 :: b4 :: b5 :: b6 :: l) 2 _ (by rw [cell_other (n4 _)]; exact cell_same (by repeat (first | with_reducible exact hsm | with_reducible refine some_set ?_ | with_reducible refine some_alloc ?_))) (by simp only [World.frozen?_setCell, frozen?_alloc_cells, hz]) (by simp) (by omega)).mono ?_
  rintro e w1 ⟨rfl, rfl⟩
  go_wp2_with fail
  refine (rnum_ok p (b4 :: b5 :: b6 :: l) 2 _ (by rw [cell_other (n4 _)]; exact cell_same (by repeat (first | with_reducible exact hsm | with_reducible refine some_set ?_ | with_reducible refine some_alloc ?_))) (by simp only [World.frozen?_setCell, frozen?_alloc_cells, hz]) (by simp) (by omega)).mono ?_
  rintro e w1 ⟨rfl, rfl⟩
  go_wp2_with fail
  refine (rnum_ok p (b6 :: l) 1 _ (by rw [cell_other (n4 _)]; exact cell_same (by repeat (first | with_reducible exact hsm | with_reducible refine some_set ?_ | with_reducible refine some_alloc ?_))) (by simp only [World.frozen?_setCell, frozen?_alloc_cells, hz]) (by simp) (by omega)).mono ?_
  rintro e w1 ⟨rfl, rfl⟩
  go_wp2_with fail
  refine (rnum_no p l 1 _ (by rw [cell_other (n4 _), cell_other (n4 _)]; exact cell_same (by repeat (first | with_reducible exact hsm | with_reducible refine some_set ?_ | with_reducible refine some_alloc ?_))) h2 (by omega)).mono ?_
  rintro e w1 ⟨rfl, rfl⟩
  go_wp2_with fail
  refine ⟨rfl, rfl, ?_⟩
  repeat (first | with_reducible exact Kp.refl _ _ | with_reducible refine Kp.alloc ?_ _ | with_reducible refine Kp.setCell ?_ (by first | with_reducible exact Or.inl rfl | (right; simp)) _)
end Go.Proofs.Ytcakfmpckbmdeab
