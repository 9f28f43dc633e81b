/-
  The laws 'TicketApart', 'TicketBack': their walks.
-/
import Derived.Test.YtcakfmpckbmdeaaT8
namespace Go.Proofs.Ytcakfmpckbmdeaa
open Go.RowKit

theorem apart_true (i k f t z r i' k' f' t' z' r' : Int) (h0 : (encV i k f t z r).2 = 0) (h0' : (encV i' k' f' t' z' r').2 = 0) :
    ((encV i k f t z r).1 = (encV i' k' f' t' z' r').1) ↔ (i = i' ∧ k = k' ∧ f = f' ∧ t = t' ∧ z = z' ∧ r = r') := by
  have a : chk i k f t z r = 0 := by
    by_cases h : chk i k f t z r = 0
    · exact h
    · simp [encV, h] at h0
  have a' : chk i' k' f' t' z' r' = 0 := by
    by_cases h : chk i' k' f' t' z' r' = 0
    · exact h
    · simp [encV, h] at h0'
  simp only [encV, a, a', if_true]
  obtain ⟨i, k, f, t, z, r, rfl, rfl, rfl, rfl, rfl, rfl, hr⟩ := right_of _ _ _ _ _ _ a
  obtain ⟨i', k', f', t', z', r', rfl, rfl, rfl, rfl, rfl, rfl, hr'⟩ := right_of _ _ _ _ _ _ a'
  simp only [Int.toNat_natCast]
  constructor
  · intro e
    have := encL_inj hr hr' e
    omega
  · intro e
    obtain ⟨e1, e2, e3, e4, e5, e6⟩ := e
    rw [show i = i' by omega, show k = k' by omega, show f = f' by omega, show t = t' by omega, show z = z' by omega, show r = r' by omega]

set_option maxHeartbeats 1600000 in
theorem ticketApart_walk (i k f t z r i' k' f' t' z' r' : Int) (w : World) :
    Calls Try.prog 5 #[tk i k f t z r, tk i' k' f' t' z' r'] w fun e w' => e = .returned (.bool true) ∧ Below w.heap.size w w' := by
  have hap := hide (apart_true i k f t z r i' k' f' t' z' r')
  generalize hE : (encV i k f t z r) = E at hap
  generalize hE' : (encV i' k' f' t' z' r') = E' at hap
  have HE := hide hE
  have HE' := hide hE'
  clear hE hE'
  obtain ⟨u, e⟩ := E
  obtain ⟨u', e'⟩ := E'
  have hcases : (e != 0) = true ∨ (e = 0 ∧ (e' != 0) = true) ∨ (e = 0 ∧ e' = 0) := by
    by_cases h : e = 0
    · by_cases h' : e' = 0
      · exact Or.inr (Or.inr ⟨h, h'⟩)
      · exact Or.inr (Or.inl ⟨h, by simpa using h'⟩)
    · exact Or.inl (by simpa using h)
  have hsix := fun (w1 : World) (hb1 : Below ((w.alloc (.cells #[.int .i64 i, .int .i64 k, .int .i64 f, .int .i64 t, .int .i64 z, .int .i64 r] 23)).alloc (.cells #[.int .i64 i', .int .i64 k', .int .i64 f', .int .i64 t', .int .i64 z', .int .i64 r'] 23)).heap.size ((w.alloc (.cells #[.int .i64 i, .int .i64 k, .int .i64 f, .int .i64 t, .int .i64 z, .int .i64 r] 23)).alloc (.cells #[.int .i64 i', .int .i64 k', .int .i64 f', .int .i64 t', .int .i64 z', .int .i64 r'] 23)) w1) =>
    (And.intro (((six_new w (.int .i64 i) (.int .i64 k) (.int .i64 f) (.int .i64 t) (.int .i64 z) (.int .i64 r) 23).alloc (.cells #[.int .i64 i', .int .i64 k', .int .i64 f', .int .i64 t', .int .i64 z', .int .i64 r'] 23)).kp (Kp.ofBelow (S := fun _ => False) hb1) (fun h => h))
      ((six_at (n := w.heap.size + 1) (w.alloc (.cells #[.int .i64 i, .int .i64 k, .int .i64 f, .int .i64 t, .int .i64 z, .int .i64 r] 23)) (by simp) (.int .i64 i') (.int .i64 k') (.int .i64 f') (.int .i64 t') (.int .i64 z') (.int .i64 r') 23).kp (Kp.ofBelow (S := fun _ => False) hb1) (fun h => h)))
  have HS := hide hsix
  clear hsix
  rcases hcases with h | ⟨rfl, h⟩ | ⟨rfl, rfl⟩
  all_goals
    go_enter Try.func5, Try.ntmps5
    go_wp2_with fail
    refine (encode_any _ _ _ _ _ _ _).mono ?_
    rintro ee w1 ⟨rfl, hb1⟩
    rw [HE.out]
    obtain ⟨⟨c0, c1, c2, c3, c4, c5, y⟩, ⟨d0, d1, d2, d3, d4, d5, y'⟩⟩ := HS.out w1 hb1
    simp only [S]
    go_wp2_with fail
    refine (encode_any _ _ _ _ _ _ _).mono ?_
    rintro ee w2 ⟨rfl, hb2⟩
    rw [HE'.out]
    obtain ⟨c0, c1, c2, c3, c4, c5, y⟩ := (Six.mk c0 c1 c2 c3 c4 c5 y).kp (Kp.ofBelow (S := fun _ => False) hb2) (fun h => h)
    obtain ⟨d0, d1, d2, d3, d4, d5, y'⟩ := (Six.mk d0 d1 d2 d3 d4 d5 y').kp (Kp.ofBelow (S := fun _ => False) hb2) (fun h => h)
    simp only [S]
    go_wp2_with fail
    refine (begun_any _).mono ?_
    rintro ee w3 ⟨rfl, hb3⟩
    obtain ⟨c0, c1, c2, c3, c4, c5, y⟩ := (Six.mk c0 c1 c2 c3 c4 c5 y).kp (Kp.ofBelow (S := fun _ => False) hb3) (fun h => h)
    obtain ⟨d0, d1, d2, d3, d4, d5, y'⟩ := (Six.mk d0 d1 d2 d3 d4 d5 y').kp (Kp.ofBelow (S := fun _ => False) hb3) (fun h => h)
    have hB : Below w.heap.size w w3 := ((((Below.refl _ _).alloc (Nat.le_refl _) _).alloc (by simp) _).trans (hb1.mono (by simp; omega)) |>.trans (hb2.mono (by have := hb1.size; simp at this; omega))).trans (hb3.mono (by have := hb1.size; have := hb2.size; simp at *; omega))
    go_wp2_with fail
  · go_ret
    exact ⟨rfl, hB⟩
  · go_ret
    exact ⟨rfl, hB⟩
  all_goals
    go_ret
    refine ⟨?_, hB⟩
    have hh := hap.out trivial trivial
    simp
    rw [hh]
    omega
end Go.Proofs.Ytcakfmpckbmdeaa
