/-
  Calls of ledgers on values; 'book' (package leeboardlaw).
-/
import Derived.Test.YtcakfmpckbmdeabS2
namespace Go.Proofs.Ytcakfmpckbmdeab
open Go.RowKit

theorem LedV.opened {w : World} {v : Value} {T : List TK} {P : List TP} {V : List Int} (h : LedV w v T P V) : ∃ o1 c1 o2 c2 o3 c3, v = lg o1 o2 o3 T.length c1 P.length c2 V.length c3 ∧ TiksAt w o1 T ∧ TapsAt w o2 P ∧ IntsAt w o3 V ∧
    (T.length ≤ c1 ∧ P.length ≤ c2 ∧ V.length ≤ c3) ∧ (o1 = none → c1 = 0) ∧ (o2 = none → c2 = 0) ∧ (o3 = none → c3 = 0) := by
  obtain ⟨v1, v2, v3, rfl, ⟨o1, c1, rfl, a1, a2, a3⟩, ⟨o2, c2, rfl, b1, b2, b3⟩, ⟨o3, c3, rfl, d1, d2, d3⟩⟩ := h
  exact ⟨o1, c1, o2, c2, o3, c3, rfl, a1, b1, d1, ⟨a2, b2, d2⟩, a3, b3, d3⟩

/-- lengths that a slice may have -/
def LensOk (T : List TK) (P : List TP) (V : List Int) : Prop := T.length ≤ 9223372036854775807 ∧ P.length ≤ 9223372036854775807 ∧ V.length ≤ 9223372036854775807

theorem checkV {w : World} {v : Value} {T : List TK} {P : List TP} {V : List Int} (h : LedV w v T P V) (hl : LensOk T P V) : Calls Try.prog 27 #[v] w fun e w' => e = .returned (.int .i64 (chkL T P V)) ∧ Below w.heap.size w w' := by
  obtain ⟨o1, c1, o2, c2, o3, c3, rfl, a1, a2, a3, ⟨-, l2, l3⟩, -⟩ := h.opened
  exact checkLed_any T P V o1 o2 o3 c1 c2 c3 w a1 a2 a3 hl.1 hl.2.1 hl.2.2 l2 l3

theorem ridesVv {w : World} {v : Value} {T : List TK} {P : List TP} {V : List Int} (h : LedV w v T P V) (hl : LensOk T P V) (id : Int) : Calls Try.prog 20 #[v, .int .i64 id] w fun e w' => e = .returned (.tuple #[.int .i64 (ridesV T P V id).1, .int .i64 (ridesV T P V id).2]) ∧ Below w.heap.size w w' := by
  obtain ⟨o1, c1, o2, c2, o3, c3, rfl, a1, a2, a3, ⟨-, l2, l3⟩, -⟩ := h.opened
  exact ridesLed_any T P V id o1 o2 o3 c1 c2 c3 w a1 a2 a3 hl.1 hl.2.1 hl.2.2 l2 l3

theorem sellV {w : World} {v : Value} {T : List TK} {P : List TP} {V : List Int} (h : LedV w v T P V) (hl : LensOk T P V) (i k f t z r : Int) : Calls Try.prog 18 #[v, tk i k f t z r] w fun e w' =>
      (∃ v, e = .returned (.tuple #[v, .int .i64 (sellE T P V ⟨i, k, f, t, z, r⟩)]) ∧ LedV w' v (if sellE T P V ⟨i, k, f, t, z, r⟩ = 0 then soldT T ⟨i, k, f, t, z, r⟩ else []) (if sellE T P V ⟨i, k, f, t, z, r⟩ = 0 then P else []) (if sellE T P V ⟨i, k, f, t, z, r⟩ = 0 then V else [])) ∧ Below w.heap.size w w' := by
  obtain ⟨o1, c1, o2, c2, o3, c3, rfl, a1, a2, a3, ⟨l1, l2, l3⟩, n1, -⟩ := h.opened
  exact sell_any T P V i k f t z r o1 o2 o3 c1 c2 c3 w a1 a2 a3 hl.1 hl.2.1 hl.2.2 l1 l2 l3 n1

theorem enterVv {w : World} {v : Value} {T : List TK} {P : List TP} {V : List Int} (h : LedV w v T P V) (hl : LensOk T P V) (a g s m z : Int) : Calls Try.prog 19 #[v, tp a g s m z] w fun e w' =>
      (∃ v, e = .returned (.tuple #[v, .int .i64 (enterV T P V ⟨a, g, s, m, z⟩).1, .int .i64 (enterV T P V ⟨a, g, s, m, z⟩).2]) ∧ LedV w' v (if (enterV T P V ⟨a, g, s, m, z⟩).2 = 0 then T else []) (if (enterV T P V ⟨a, g, s, m, z⟩).2 = 0 then P ++ [(⟨a, g, s, m, z⟩ : TP)] else [])
        (if (enterV T P V ⟨a, g, s, m, z⟩).2 = 0 then V ++ [(enterV T P V ⟨a, g, s, m, z⟩).1] else [])) ∧ Below w.heap.size w w' := by
  obtain ⟨o1, c1, o2, c2, o3, c3, rfl, a1, a2, a3, ⟨-, l2, l3⟩, -, n2, n3⟩ := h.opened
  exact enter_any T P V a g s m z o1 o2 o3 c1 c2 c3 w a1 a2 a3 hl.1 hl.2.1 hl.2.2 l2 l3 n2 n3

def bookT : List TK := [⟨1, 1, 10, 500, 15, 0⟩, ⟨4, 3, 0, 900, 3, 2⟩]
def bookP : List TP := [⟨1, 0, 1, 20, 1⟩, ⟨1, 1, 1, 60, 1⟩]
def bookV : List Int := [1, 2]

theorem book_lens : LensOk bookT bookP bookV := by simp [LensOk, bookT, bookP, bookV]

set_option maxHeartbeats 3200000 in
set_option maxRecDepth 100000 in
theorem book_any (w : World) : Calls Try.prog 63 #[] w fun e w' => (∃ v, e = .returned v ∧ LedV w' v bookT bookP bookV) ∧ Below w.heap.size w w' := by
  go_enter Try.func63, Try.ntmps63
  go_wp2_with fail
  refine (single_any _ _).mono ?_
  rintro e w1 ⟨rfl, hb1⟩
  have hrow1 : w1.heap[w.heap.size]? = some (cL none none none 0 0 0 0 0 0 43) := by rw [hb1.block _ (by simp)]; exact heap_alloc_new' _ _ _ rfl
  have HB1 := hide (((Below.refl w.heap.size w).alloc (Nat.le_refl _) (cL none none none 0 0 0 0 0 0 43)).trans (hb1.mono (by simp)))
  have hs1 := hb1.size
  simp at hs1
  clear hb1
  go_wp2_with fail
  have HT1 : Hid (TiksV (w1.alloc (.cells #[.int .i64 1, .int .i64 1, .int .i64 10, .int .i64 500, .int .i64 15, .int .i64 0, .int .i64 4, .int .i64 3, .int .i64 0, .int .i64 900, .int .i64 3, .int .i64 2] 23)) (.slice (some ⟨w1.heap.size, 0, none⟩) 2 2) bookT) :=
    hide (tiksV_own (base := 0) (n := 2) ⟨rfl, .inr ⟨w1.heap.size, 2, _, rfl, Nat.zero_le _, heap_alloc_new _ _, Nat.le_refl _, by decide, rfl, rfl⟩⟩)
  have hrow2 : (w1.alloc (.cells #[.int .i64 1, .int .i64 1, .int .i64 10, .int .i64 500, .int .i64 15, .int .i64 0, .int .i64 4, .int .i64 3, .int .i64 0, .int .i64 900, .int .i64 3, .int .i64 2] 23)).heap[w.heap.size]? = some (cL none none none 0 0 0 0 0 0 43) := by
    rw [heap_alloc_old w1 _ (show w.heap.size < w1.heap.size by omega)]; exact hrow1
  have HB2 := hide (HB1.out.alloc HB1.out.size (.cells #[.int .i64 1, .int .i64 1, .int .i64 10, .int .i64 500, .int .i64 15, .int .i64 0, .int .i64 4, .int .i64 3, .int .i64 0, .int .i64 900, .int .i64 3, .int .i64 2] 23))
  have hs2 : w.heap.size < (w1.alloc (.cells #[.int .i64 1, .int .i64 1, .int .i64 10, .int .i64 500, .int .i64 15, .int .i64 0, .int .i64 4, .int .i64 3, .int .i64 0, .int .i64 900, .int .i64 3, .int .i64 2] 23)).heap.size := by simp; omega
  have hf1 : Fresh (w.heap.size + 1) (.slice (some ⟨w1.heap.size, 0, none⟩) 2 2) := fun k hk => by simp [Value.ownBlock] at hk; omega
  generalize (.slice (some ⟨w1.heap.size, 0, none⟩) 2 2 : Value) = vT at *
  generalize w1.alloc (.cells #[.int .i64 1, .int .i64 1, .int .i64 10, .int .i64 500, .int .i64 15, .int .i64 0, .int .i64 4, .int .i64 3, .int .i64 0, .int .i64 900, .int .i64 3, .int .i64 2] 23) = w2 at *
  refine (at_any _ _ _ _ _).mono ?_
  rintro e w3 ⟨rfl, hb3⟩
  have HT3 := hide (HT1.out.below hb3)
  have HB3 := hide (HB2.out.trans (hb3.mono HB2.out.size))
  have hrow3 : w3.heap[w.heap.size]? = some (cL none none none 0 0 0 0 0 0 43) := by rw [hb3.block _ hs2]; exact hrow2
  have hs3 := Nat.lt_of_lt_of_le hs2 hb3.size
  clear hb3 HT1 HB2 hrow2 hs2 hrow1 hs1 HB1
  go_wp2_with fail
  refine (at_any _ _ _ _ _).mono ?_
  rintro e w4 ⟨rfl, hb4⟩
  have HT4 := hide (HT3.out.below hb4)
  have HB4 := hide (HB3.out.trans (hb4.mono HB3.out.size))
  have hrow4 : w4.heap[w.heap.size]? = some (cL none none none 0 0 0 0 0 0 43) := by rw [hb4.block _ hs3]; exact hrow3
  have hs4 := Nat.lt_of_lt_of_le hs3 hb4.size
  clear hb4 HT3 HB3 hrow3 hs3
  obtain ⟨oT, cT, rfl, hT4⟩ := HT4.out
  have r0 := cell_of_row _ _ 0 _ _ _ hrow4
  have r1 := cell_of_row _ _ 1 _ _ _ hrow4
  have r2 := cell_of_row _ _ 2 _ _ _ hrow4
  have s0 := frozen_of_row _ _ 0 _ _ hrow4
  have s1 := frozen_of_row _ _ 1 _ _ hrow4
  have s2 := frozen_of_row _ _ 2 _ _ hrow4
  simp at r0 r1 r2
  clear hrow4 hT4
  go_wp2_with fail
  have hT5 := ((HT4.out.set hf1 (p := ⟨w.heap.size, 0, none⟩) (by simp) (.slice oT bookT.length cT)).set hf1 (p := ⟨w.heap.size, 1, none⟩) (by simp) (.slice (some ⟨w4.heap.size, 0, none⟩) 2 2)).set hf1 (p := ⟨w.heap.size, 2, none⟩) (by simp) (.slice (some ⟨w4.heap.size + 1, 0, none⟩) 2 2)
  have hB5 := ((HB4.out.setCell (p := ⟨w.heap.size, 0, none⟩) (by simp) (.slice oT bookT.length cT)).setCell (p := ⟨w.heap.size, 1, none⟩) (by simp) (.slice (some ⟨w4.heap.size, 0, none⟩) 2 2)).setCell (p := ⟨w.heap.size, 2, none⟩) (by simp) (.slice (some ⟨w4.heap.size + 1, 0, none⟩) 2 2)
  have hL5 : Led3 (((w4.setCell ⟨w.heap.size, 0, none⟩ (.slice oT bookT.length cT)).setCell ⟨w.heap.size, 1, none⟩ (.slice (some ⟨w4.heap.size, 0, none⟩) 2 2)).setCell ⟨w.heap.size, 2, none⟩ (.slice (some ⟨w4.heap.size + 1, 0, none⟩) 2 2)) w.heap.size oT (some ⟨w4.heap.size, 0, none⟩) (some ⟨w4.heap.size + 1, 0, none⟩) bookT.length cT 2 2 2 2 := by
    refine ⟨?_, ?_, ?_⟩
    all_goals simp [go_sem, r0, r1, r2]
  have hs5 : (((w4.setCell ⟨w.heap.size, 0, none⟩ (.slice oT bookT.length cT)).setCell ⟨w.heap.size, 1, none⟩ (.slice (some ⟨w4.heap.size, 0, none⟩) 2 2)).setCell ⟨w.heap.size, 2, none⟩ (.slice (some ⟨w4.heap.size + 1, 0, none⟩) 2 2)).heap.size = w4.heap.size := by simp [World.setCell]
  generalize ((w4.setCell ⟨w.heap.size, 0, none⟩ (.slice oT bookT.length cT)).setCell ⟨w.heap.size, 1, none⟩ (.slice (some ⟨w4.heap.size, 0, none⟩) 2 2)).setCell ⟨w.heap.size, 2, none⟩ (.slice (some ⟨w4.heap.size + 1, 0, none⟩) 2 2) = w5 at *
  rw [← hs5] at hL5
  simp only [← hs5]
  have hP6 : TapsV (w5.alloc (.cells #[.int .i64 1, .int .i64 0, .int .i64 1, .int .i64 20, .int .i64 1, .int .i64 1, .int .i64 1, .int .i64 1, .int .i64 60, .int .i64 1] 32)) (.slice (some ⟨w5.heap.size, 0, none⟩) 2 2) bookP :=
    tapsV_own (base := 0) (n := 2) ⟨rfl, .inr ⟨w5.heap.size, 2, _, rfl, Nat.zero_le _, heap_alloc_new _ _, Nat.le_refl _, by decide, rfl, rfl⟩⟩
  have hb6 := (Below.refl w5.heap.size w5).alloc (Nat.le_refl _) (.cells #[.int .i64 1, .int .i64 0, .int .i64 1, .int .i64 20, .int .i64 1, .int .i64 1, .int .i64 1, .int .i64 1, .int .i64 60, .int .i64 1] 32)
  have hs6 : (w5.alloc (.cells #[.int .i64 1, .int .i64 0, .int .i64 1, .int .i64 20, .int .i64 1, .int .i64 1, .int .i64 1, .int .i64 1, .int .i64 60, .int .i64 1] 32)).heap.size = w5.heap.size + 1 := by simp
  generalize w5.alloc (.cells #[.int .i64 1, .int .i64 0, .int .i64 1, .int .i64 20, .int .i64 1, .int .i64 1, .int .i64 1, .int .i64 1, .int .i64 60, .int .i64 1] 32) = w6 at *
  have hV7 : IntsV (w6.alloc (.cells #[.int .i64 1, .int .i64 2] 3)) (.slice (some ⟨w6.heap.size, 0, none⟩) 2 2) bookV :=
    intsV_own (base := 0) (n := 2) ⟨rfl, .inr ⟨w6.heap.size, 2, _, rfl, Nat.zero_le _, heap_alloc_new _ _, Nat.le_refl _, by decide, rfl, rfl⟩⟩
  have hb7 := (Below.refl w6.heap.size w6).alloc (Nat.le_refl _) (.cells #[.int .i64 1, .int .i64 2] 3)
  have hlt := hL5.lt
  obtain ⟨g0, g1, g2⟩ := (hL5.below hb6 hlt).below hb7 (Nat.lt_of_lt_of_le hlt hb6.size)
  refine bodyPost_ret (v := lg oT (some ⟨w5.heap.size, 0, none⟩) (some ⟨w5.heap.size + 1, 0, none⟩) bookT.length cT 2 2 2 2) (by simp [results, Try.results63, go_sem, g0, g1, g2]) rfl ⟨⟨_, rfl, _, _, _, rfl, (hT5.below hb6).below hb7, hP6.below hb7, ?_⟩, (hB5.trans (hb6.mono hB5.size)).trans (hb7.mono (Nat.le_trans hB5.size hb6.size))⟩
  rw [← hs6]
  exact hV7

end Go.Proofs.Ytcakfmpckbmdeab
