/-
  The contracts of 'ticket.Decode$1', 'octet.Whole$1', 'octet.Whole', 'ticket.Decode'.
-/
import Derived.Test.YtcakfmpckbmdeabT4
namespace Go.Proofs.Ytcakfmpckbmdeab
open Go.RowKit

/-- six cells of block b hold these, and may be written -/
structure Six (w : World) (b : Nat) (x0 x1 x2 x3 x4 x5 : Value) : Prop where
  c0 : w.cell? ⟨b, 0, none⟩ = some x0
  c1 : w.cell? ⟨b, 1, none⟩ = some x1
  c2 : w.cell? ⟨b, 2, none⟩ = some x2
  c3 : w.cell? ⟨b, 3, none⟩ = some x3
  c4 : w.cell? ⟨b, 4, none⟩ = some x4
  c5 : w.cell? ⟨b, 5, none⟩ = some x5
  z : ∀ o, w.frozen? ⟨b, o, none⟩ = false

theorem Six.kp {P : Nat → Prop} {w w' : World} {b : Nat} {x0 x1 x2 x3 x4 x5 : Value} (h : Six w b x0 x1 x2 x3 x4 x5) (hk : Kp P w w') (hb : ¬ P b) : Six w' b x0 x1 x2 x3 x4 x5 := by
  have hl : b < w.heap.size := World.block_lt_of_cell? w ⟨b, 0, none⟩ h.c0
  have e : ∀ o, w'.cell? ⟨b, o, none⟩ = w.cell? ⟨b, o, none⟩ := fun o => hk.cell (p := ⟨b, o, none⟩) hl hb
  exact ⟨by rw [e]; exact h.c0, by rw [e]; exact h.c1, by rw [e]; exact h.c2, by rw [e]; exact h.c3, by rw [e]; exact h.c4, by rw [e]; exact h.c5,
    fun o => by rw [hk.frozen (p := ⟨b, o, none⟩) hl hb]; exact h.z o⟩

theorem Six.lt {w : World} {b : Nat} {x0 x1 x2 x3 x4 x5 : Value} (h : Six w b x0 x1 x2 x3 x4 x5) : b < w.heap.size := World.block_lt_of_cell? w ⟨b, 0, none⟩ h.c0

theorem Six.store {w : World} {b : Nat} {x0 x1 x2 x3 x4 x5 : Value} (h : Six w b x0 x1 x2 x3 x4 x5) (v0 v1 v2 v3 v4 v5 : Value) :
    Six ((((((w.setCell ⟨b, 0, none⟩ v0).setCell ⟨b, 1, none⟩ v1).setCell ⟨b, 2, none⟩ v2).setCell ⟨b, 3, none⟩ v3).setCell ⟨b, 4, none⟩ v4).setCell ⟨b, 5, none⟩ v5) b v0 v1 v2 v3 v4 v5 := by
  obtain ⟨c0, c1, c2, c3, c4, c5, z⟩ := h
  exact ⟨by simp [go_sem, c0], by simp [go_sem, c1], by simp [go_sem, c2], by simp [go_sem, c3], by simp [go_sem, c4], by simp [go_sem, c5], fun o => by simp [z]⟩

set_option maxHeartbeats 1600000 in
set_option maxRecDepth 100000 in
theorem clo_ok (p : Addr) (qb : Nat) (b0 b1 b2 b3 b4 b5 b6 b7 : UInt8) (l : List UInt8) (x0 x1 x2 x3 x4 x5 : Value) (w : World)
    (hc : w.cell? p = some (S (b0 :: b1 :: b2 :: b3 :: b4 :: b5 :: b6 :: b7 :: l))) (hz : w.frozen? p = false) (hq : Six w qb x0 x1 x2 x3 x4 x5) (hne : qb ≠ p.block) :
    Calls Try.prog 91 #[.pointer (some p), .pointer (some ⟨qb, 0, none⟩)] w fun e w' => e = .returned (.tuple #[]) ∧ Kp (fun k => k = p.block ∨ k = qb) w w' ∧ w'.cell? p = some (S l) ∧
      Six w' qb (.int .i64 (num [b0, b1])) (.int .i64 ((num [b6] : Int) / 16)) (.int .i64 (num [b2, b3])) (.int .i64 (num [b4, b5])) (.int .i64 ((num [b6] : Int) % 16)) (.int .i64 (num [b7])) := by
  have Hq := (show Hid (Six w qb x0 x1 x2 x3 x4 x5) from hq)
  have Hne := (show Hid (qb ≠ p.block) from hne)
  clear hq hne
  go_enter Try.func91, Try.ntmps91
  go_wp2_with fail
  refine (read_ok p b0 b1 b2 b3 b4 b5 b6 b7 l _ hc hz).mono ?_
  rintro e w1 ⟨rfl, hk, hp⟩
  obtain ⟨c0, c1, c2, c3, c4, c5, z⟩ := Hq.out.kp hk Hne.out
  have n : ∀ o, (⟨qb, o, none⟩ : Addr) ≠ p := fun o e => Hne.out (by rw [← e])
  go_wp2_with fail
  go_end0
  refine ⟨rfl, ?_, ?_, (Six.store ⟨c0, c1, c2, c3, c4, c5, z⟩ _ _ _ _ _ _)⟩
  · have hk' : Kp (fun k => k = p.block ∨ k = qb) w w1 := hk.mono (fun k _ h => Or.inl h)
    repeat (first | with_reducible exact hk' | with_reducible refine Kp.setCell ?_ (Or.inl (Or.inr rfl)) _)
  · repeat (rw [cell_other (n _)])
    exact hp

set_option maxHeartbeats 1600000 in
set_option maxRecDepth 100000 in
theorem clo_no (p : Addr) (qb : Nat) (l : List UInt8) (w : World) (hc : w.cell? p = some (S l)) (hz : w.frozen? p = false) (hl : l.length < 8) :
    Calls Try.prog 91 #[.pointer (some p), .pointer (some ⟨qb, 0, none⟩)] w fun e w' => e = .panicked [gone] ∧ Kp (fun k => k = p.block ∨ k = qb) w w' := by
  go_enter Try.func91, Try.ntmps91
  go_wp2_with fail
  refine (read_no p l _ hc hz hl).mono ?_
  rintro e w1 ⟨rfl, hk⟩
  go_wp2_with fail
  exact ⟨rfl, rfl, hk.mono (fun k _ h => Or.inl h)⟩

theorem catch_panicking (c : Addr) (x : Value) (older : List PanicEntry) (w : World) (hc : w.cell? c = some x) (hz : w.frozen? c = false) :
    CallsD Try.prog 96 #[.pointer (some c)] (.panicking (gone :: older)) w fun e u' w' =>
      e = .returned (.tuple #[]) ∧ u' = .panicking ({ v := .iface 124 (.agg #[]), recovered := true } :: older) ∧ Kp (fun k => k = c.block) w w' ∧ w'.cell? c = some (.bool false) := by
  have hta : ∀ W : World, (Instr.typeAssert (.iface 124 (.agg #[])) 20 124 true).run Try.prog W = .ok (.tuple #[.agg #[], .bool true]) W := fun W => by kernel_rfl
  have hcb : c.block < w.heap.size := World.block_lt_of_cell? w _ hc
  have hza : ∀ xs T, (w.alloc (.cells xs T)).frozen? c = false := fun xs T => by rw [frozen?_alloc_cells]; exact hz
  refine callsD_of_wpS Try.func96 rfl fun c₀ cs hu => ?_
  apply wpS_seq
  apply wpS_region
  simp [wpOpsS, go_sem, recoverD, hu, Try.ntmps96, Exit.thenS]
  refine wpS_of_wp ?_
  simp only [Array.replicate]
  go_wp2
  have hfin : ((w.alloc (.cells #[] 124)).setCell c (.bool false)).cell? c = some (.bool false) := cell_same (some_alloc (by rw [hc]; rfl))
  have hkp : Kp (fun k => k = c.block) w ((w.alloc (.cells #[] 124)).setCell c (.bool false)) := by
    exact Kp.setCell (S := fun k => k = c.block) (Kp.alloc (Kp.refl _ _) _) (Or.inl rfl) _
  simp [bodyPostS, results, Try.results96, hfin, hkp]

theorem catch_idle (c : Addr) (w : World) :
    CallsD Try.prog 96 #[.pointer (some c)] .returning w fun e u' w' => e = .returned (.tuple #[]) ∧ u' = .returning ∧ w' = w := by
  refine callsD_of_wpS Try.func96 rfl fun c₀ cs hu => ?_
  apply wpS_seq
  apply wpS_region
  simp [wpOpsS, go_sem, recoverD, hu, Try.ntmps96, Exit.thenS]
  refine wpS_of_wp ?_
  simp only [Array.replicate]
  go_wp2
  cases c₀
  simp_all [bodyPostS, results, Try.results96]

set_option maxHeartbeats 1600000 in
set_option maxRecDepth 100000 in
theorem whole_ret (f : Nat) (qb : Nat) (s t : ByteArray) (R : World → Prop) (w : World)
    (hent : ∀ (args : Array Value) (W : World), (callFunc f args).run Try.prog W = .ok (.enter f args) W)
    (hR : ∀ w1 w2, Kp (fun k => k ≠ qb) w1 w2 → qb < w1.heap.size → R w1 → R w2) (hqb : qb < w.heap.size)
    (hcall : ∀ p W, p = (⟨w.heap.size + 1, 0, none⟩ : Addr) → W.cell? p = some (.string s) → W.frozen? p = false → Kp (fun _ => False) w W → w.heap.size + 2 ≤ W.heap.size →
      Calls Try.prog f #[.pointer (some p), .pointer (some ⟨qb, 0, none⟩)] W fun e w1 => e = .returned (.tuple #[]) ∧ Kp (fun k => k = p.block ∨ k = qb) W w1 ∧ w1.cell? p = some (.string t) ∧ R w1) :
    Calls Try.prog 88 #[.string s, .func (.func f) #[] #[.pointer (some ⟨qb, 0, none⟩)]] w fun e w' => e = .returned (.bool t.toList.isEmpty) ∧ Kp (fun k => k = qb) w w' ∧ R w' := by
  have hmf : ∀ (fn : Fn) (first cap : Array Value) (w : World), (Instr.makeFunc fn first cap).run Try.prog w = .ok (.func fn first cap) w := fun _ _ _ _ => rfl
  have HR := (show Hid _ from hR)
  have HC := (show Hid _ from hcall)
  clear hR hcall
  go_enter_defers Try.func88, Try.ntmps88
  go_wp2_with fail
  refine (HC.out _ _ rfl (by simp [go_sem]) (by simp [go_sem]) (by exact ((Kp.refl _ _).alloc _).alloc _) (by simp)).mono ?_
  rintro e w1 ⟨rfl, hk, hp, hr⟩
  have HRr := (show Hid (R w1) from hr)
  clear hr
  have c1 : w1.cell? ⟨w.heap.size, 0, none⟩ = some (.bool false) := by
    rw [hk.cell (p := ⟨w.heap.size, 0, none⟩) (by simp; omega) (by simp; omega)]; simp [go_sem]
  have z1 : w1.frozen? ⟨w.heap.size, 0, none⟩ = false := by
    rw [hk.frozen (p := ⟨w.heap.size, 0, none⟩) (by simp; omega) (by simp; omega)]; simp [go_sem]
  go_wp2_with fail
  refine leaves_cons (f := 96) (args := #[.pointer (some ⟨w.heap.size, 0, none⟩)]) (by simp) (by simp [go_sem]) ?_
  refine (catch_idle _ _).mono ?_
  rintro e u' w'' ⟨rfl, rfl, rfl⟩
  simp [Leaves, settle, results, Try.results88, go_sem, c1]
  refine ⟨?_, HR.out _ _ ?_ ?_ HRr.out⟩
  · refine Kp.setCell (S := fun k => k = qb) ?_ (Or.inr (by simp)) _
    refine Kp.next (Kp.alloc (Kp.alloc (Kp.refl _ _) _) _) hk (fun i hi h => ?_)
    rcases h with h | h
    · exact absurd hi (by omega)
    · exact h
  · exact Kp.setCell (S := fun k => k ≠ qb) (Kp.refl _ _) (Or.inl (by simp; omega)) _
  · have := hk.size; simp at this; omega

set_option maxHeartbeats 1600000 in
set_option maxRecDepth 100000 in
theorem whole_pan (f : Nat) (qb : Nat) (s : ByteArray) (w : World)
    (hent : ∀ (args : Array Value) (W : World), (callFunc f args).run Try.prog W = .ok (.enter f args) W) (hqb : qb < w.heap.size)
    (hcall : ∀ p W, p = (⟨w.heap.size + 1, 0, none⟩ : Addr) → W.cell? p = some (.string s) → W.frozen? p = false → Kp (fun _ => False) w W → w.heap.size + 2 ≤ W.heap.size →
      Calls Try.prog f #[.pointer (some p), .pointer (some ⟨qb, 0, none⟩)] W fun e w1 => e = .panicked [gone] ∧ Kp (fun k => k = p.block ∨ k = qb) W w1) :
    Calls Try.prog 88 #[.string s, .func (.func f) #[] #[.pointer (some ⟨qb, 0, none⟩)]] w fun e w' => e = .returned (.bool false) ∧ Kp (fun k => k = qb) w w' := by
  have hmf : ∀ (fn : Fn) (first cap : Array Value) (w : World), (Instr.makeFunc fn first cap).run Try.prog w = .ok (.func fn first cap) w := fun _ _ _ _ => rfl
  have HC := (show Hid _ from hcall)
  clear hcall
  go_enter_defers Try.func88, Try.ntmps88
  go_wp2_with fail
  refine (HC.out _ _ rfl (by simp [go_sem]) (by simp [go_sem]) (by exact ((Kp.refl _ _).alloc _).alloc _) (by simp)).mono ?_
  rintro e w1 ⟨rfl, hk⟩
  have c1 : w1.cell? ⟨w.heap.size, 0, none⟩ = some (.bool false) := by
    rw [hk.cell (p := ⟨w.heap.size, 0, none⟩) (by simp; omega) (by simp; omega)]; simp [go_sem]
  have z1 : w1.frozen? ⟨w.heap.size, 0, none⟩ = false := by
    rw [hk.frozen (p := ⟨w.heap.size, 0, none⟩) (by simp; omega) (by simp; omega)]; simp [go_sem]
  go_wp2_with fail
  refine leaves_cons (f := 96) (args := #[.pointer (some ⟨w.heap.size, 0, none⟩)]) (by simp) (by simp [go_sem]) ?_
  refine (catch_panicking _ _ _ _ c1 z1).mono ?_
  rintro e u' w'' ⟨rfl, rfl, hk2, c2⟩
  simp [Leaves, settle, results, Try.results88, go_sem, c2]
  refine Kp.next (Kp.next (Kp.alloc (Kp.alloc (Kp.refl _ _) _) _) hk (fun i hi h => ?_)) hk2 (fun i hi h => ?_)
  · rcases h with h | h
    · exact absurd hi (by omega)
    · exact h
  · exact absurd hi (by simp at h; omega)
end Go.Proofs.Ytcakfmpckbmdeab
