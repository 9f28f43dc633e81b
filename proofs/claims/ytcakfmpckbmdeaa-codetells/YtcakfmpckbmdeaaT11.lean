/-
  The law 'TicketBack': its walk.
-/
import Derived.Test.YtcakfmpckbmdeaaT8
namespace Go.Proofs.Ytcakfmpckbmdeaa
open Go.RowKit

/-- what Decode says: an error, and no ticket; or a ticket whose bytes these are -/
theorem dec_cases (l : List UInt8) : (∃ e : Int, decV l = (tk 0 0 0 0 0 0, e) ∧ e ≠ 0) ∨ ∃ i k f t z r : Int, decV l = (tk i k f t z r, 0) ∧ encV i k f t z r = (l, 0) := by
  by_cases h : l.length = 8
  · obtain ⟨b0, b1, b2, b3, b4, b5, b6, b7, t, rfl⟩ := eight l (by omega)
    obtain rfl : t = [] := by simpa using h
    rw [dec8]
    by_cases hc : chk (num [b0, b1]) ((num [b6] : Int) / 16) (num [b2, b3]) (num [b4, b5]) ((num [b6] : Int) % 16) (num [b7]) = 0
    · right
      rw [if_pos hc]
      refine ⟨_, _, _, _, _, _, rfl, ?_⟩
      unfold encV
      rw [if_pos hc]
      have e := enc_dec b0 b1 b2 b3 b4 b5 b6 b7
      have e1 : ((num [b6] : Int) / 16).toNat = num [b6] / 16 := by omega
      have e2 : ((num [b6] : Int) % 16).toNat = num [b6] % 16 := by omega
      simp only [Int.toNat_natCast, e1, e2]
      rw [e]
    · left
      rw [if_neg hc]
      exact ⟨_, rfl, hc⟩
  · left
    exact ⟨1, decV_other l h, by decide⟩

theorem enc_cases (i k f t z r : Int) : (∃ e : Int, encV i k f t z r = ([], e) ∧ (e == 0) = false) ∨ ∃ u : List UInt8, encV i k f t z r = (u, 0) ∧ decV u = (tk i k f t z r, 0) ∧ u.length = 8 := by
  by_cases h : chk i k f t z r = 0
  · right
    refine ⟨_, by unfold encV; rw [if_pos h], ?_, encL_len _ _ _ _ _ _⟩
    obtain ⟨i', k', f', t', z', r', rfl, rfl, rfl, rfl, rfl, rfl, hr⟩ := right_of _ _ _ _ _ _ h
    simp only [Int.toNat_natCast]
    exact dec_enc hr
  · left
    exact ⟨chk i k f t z r, by unfold encV; rw [if_neg h], by simpa using h⟩

set_option maxHeartbeats 1600000 in
theorem ticketBack_walk (i k f t z r : Int) (s : ByteArray) (w : World) :
    Calls Try.prog 4 #[tk i k f t z r, .string s] w fun e w' => e = .returned (.bool true) ∧ Below w.heap.size w w' := by
  rcases enc_cases i k f t z r with ⟨e, hE, he⟩ | ⟨u, hE, hD, hL⟩
  · have HE := hide hE
    clear hE
    go_enter Try.func4, Try.ntmps4
    go_wp2_with fail
    refine (begun_any _).mono ?_
    rintro ee w1 ⟨rfl, hb1⟩
    obtain ⟨c0, c1, c2, c3, c4, c5, y⟩ := (six_new w (.int .i64 i) (.int .i64 k) (.int .i64 f) (.int .i64 t) (.int .i64 z) (.int .i64 r) 23).kp (Kp.ofBelow (S := fun _ => False) hb1) (fun h => h)
    go_wp2_with fail
    refine (encode_any _ _ _ _ _ _ _).mono ?_
    rintro ee w2 ⟨rfl, hb2⟩
    rw [HE.out]
    simp only [S]
    go_wp2_with fail
    refine (decode_any _ _).mono ?_
    rintro ee w3 ⟨rfl, hb3⟩
    have hB : Below w.heap.size w w3 := ((((Below.refl _ _).alloc (Nat.le_refl _) _).trans (hb1.mono (by simp))).trans (hb2.mono (by have := hb1.size; simp at this; omega))).trans (hb3.mono (by have := hb1.size; have := hb2.size; simp at *; omega))
    rcases dec_cases s.data.toList with ⟨e2, h2, he2⟩ | ⟨i2, k2, f2, t2, z2, r2, h2, hE2⟩
    · rw [h2]
      have he2' : (e2 != 0) = true := by simpa using he2
      have H2 := hide h2
      clear h2 he2
      go_wp2_with fail
      go_ret
      refine ⟨rfl, ?_⟩
      exact hB.alloc (by have := hb1.size; have := hb2.size; have := hb3.size; simp at *; omega) _
    · rw [h2]
      have H2 := hide h2
      have HE2 := hide hE2
      clear h2 hE2
      go_wp2_with fail
      refine (encode_any _ _ _ _ _ _ _).mono ?_
      rintro ee w4 ⟨rfl, hb4⟩
      rw [HE2.out]
      rw [← S_of]
      go_wp2_with fail
      go_ret
      refine ⟨by simp, ?_⟩
      exact (hB.alloc (by have := hb1.size; have := hb2.size; have := hb3.size; simp at *; omega) _).trans (hb4.mono (by have := hb1.size; have := hb2.size; have := hb3.size; simp at *; omega))
  · have HE := hide hE
    have HD := hide hD
    have HL := hide hL
    clear hE hD hL
    go_enter Try.func4, Try.ntmps4
    go_wp2_with fail
    refine (begun_any _).mono ?_
    rintro ee w1 ⟨rfl, hb1⟩
    obtain ⟨c0, c1, c2, c3, c4, c5, y⟩ := (six_new w (.int .i64 i) (.int .i64 k) (.int .i64 f) (.int .i64 t) (.int .i64 z) (.int .i64 r) 23).kp (Kp.ofBelow (S := fun _ => False) hb1) (fun h => h)
    go_wp2_with fail
    refine (encode_any _ _ _ _ _ _ _).mono ?_
    rintro ee w2 ⟨rfl, hb2⟩
    rw [HE.out]
    have hUs : (⟨u.toArray⟩ : ByteArray).size = 8 := by have := HL.out; simpa [ByteArray.size] using this
    simp only [S]
    generalize hU : (⟨u.toArray⟩ : ByteArray) = U at hUs
    have hUl : U.data.toList = u := by rw [← hU]
    have HU := hide hU
    have HUl := hide hUl
    have HS8 := hide hUs
    have hs8 : ((U.size : Int) != 8) = false := by rw [hUs]; rfl
    clear hU hUl hUs
    obtain ⟨c0, c1, c2, c3, c4, c5, y⟩ := (Six.mk c0 c1 c2 c3 c4 c5 y).kp (Kp.ofBelow (S := fun _ => False) hb2) (fun h => h)
    go_wp2_with fail
    refine (decode_any _ _).mono ?_
    rintro ee w2' ⟨rfl, hb2'⟩
    rw [HUl.out, HD.out]
    obtain ⟨c0, c1, c2, c3, c4, c5, y⟩ := ((Six.mk c0 c1 c2 c3 c4 c5 y)).kp (Kp.ofBelow (S := fun _ => False) hb2') (fun h => h)
    have hlt : w.heap.size < w2'.heap.size := World.block_lt_of_cell? w2' ⟨w.heap.size, 0, none⟩ c0
    go_wp2_with fail
    refine (decode_any _ _).mono ?_
    rintro ee w3 ⟨rfl, hb3⟩
    have hB : Below w.heap.size w w3 := (((((Below.refl _ _).alloc (Nat.le_refl _) _).trans (hb1.mono (by simp))).trans (hb2.mono (by have := hb1.size; simp at this; omega))).trans (hb2'.mono (by have := hb1.size; have := hb2.size; simp at *; omega))).alloc (by omega) _ |>.trans (hb3.mono (by simp; omega))
    have hlt3 : w.heap.size ≤ w3.heap.size := hB.size
    rcases dec_cases s.data.toList with ⟨e2, h2, he2⟩ | ⟨i2, k2, f2, t2, z2, r2, h2, hE2⟩
    · rw [h2]
      have he2' : (e2 != 0) = true := by simpa using he2
      have H2 := hide h2
      clear h2 he2
      go_wp2_with fail
      go_ret
      refine ⟨rfl, ?_⟩
      exact hB.alloc hlt3 _
    · rw [h2]
      have H2 := hide h2
      have HE2 := hide hE2
      clear h2 hE2
      go_wp2_with fail
      refine (encode_any _ _ _ _ _ _ _).mono ?_
      rintro ee w4 ⟨rfl, hb4⟩
      rw [HE2.out]
      rw [← S_of]
      go_wp2_with fail
      go_ret
      refine ⟨by simp, ?_⟩
      exact (hB.alloc hlt3 _).trans (hb4.mono (by simp; omega))
end Go.Proofs.Ytcakfmpckbmdeaa
