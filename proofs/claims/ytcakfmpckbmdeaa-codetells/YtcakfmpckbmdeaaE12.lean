/-
  The document's answers: 'CheckTicket', 'TicketBytes' (package leeboardref).
-/
import Derived.Test.YtcakfmpckbmdeaaT7
namespace Go.Proofs.Ytcakfmpckbmdeaa
open Go.RowKit

set_option maxHeartbeats 1600000 in
theorem checkT_any (i k f t z r : Int) (w : World) :
    Calls Try.prog 11 #[tk i k f t z r] w fun e w' => e = .returned (.int .i64 (chk i k f t z r)) ∧ Below w.heap.size w w' := by
  have hin : inR i f t z = (wi i 1 9999 && wi f 0 9999 && wi t 0 9999 && wi z 1 15) := rfl
  have Hin := hide hin
  clear hin
  by_cases hA : inR i f t z = true
  · have h := hA
    simp only [inR, Bool.and_eq_true] at h
    obtain ⟨⟨⟨h1, h2⟩, h3⟩, h4⟩ := h
    have HA := hide hA
    clear hA
    cases h5 : wi k 1 3
    · go_enter Try.func11, Try.ntmps11
      go_wp2_with (go_at_call 29; refine (between_any _ _ _ _).mono ?_; rintro e w' ⟨rfl, rfl⟩)
      go_ret
      exact ⟨by simp [chk, unhide HA, h5], (Below.refl _ _).alloc (Nat.le_refl _) _⟩
    · by_cases h6 : t < f
      · go_enter Try.func11, Try.ntmps11
        go_wp2_with (go_at_call 29; refine (between_any _ _ _ _).mono ?_; rintro e w' ⟨rfl, rfl⟩)
        go_ret
        exact ⟨by simp [chk, unhide HA, h5, h6], (Below.refl _ _).alloc (Nat.le_refl _) _⟩
      · by_cases h7 : k = 3
        · have h7' : (k == 3) = true := by simpa using h7
          have h7'' : (k != 3) = false := by simp [h7]
          have H7 := hide h7
          clear h7
          cases h8 : wi r 2 9
          all_goals
            go_enter Try.func11, Try.ntmps11
            go_wp2_with (go_at_call 29; refine (between_any _ _ _ _).mono ?_; rintro e w' ⟨rfl, rfl⟩)
            go_ret
            exact ⟨by have e3 := unhide H7; have e6 : ¬ t < f := by omega
                      subst e3; simp [chk, unhide HA, e6, ridesF, h8, show wi 3 1 3 = true from by decide], (Below.refl _ _).alloc (Nat.le_refl _) _⟩
        · have h7' : (k == 3) = false := by simpa using h7
          have h7'' : (k != 3) = true := by simpa using h7
          have H7 := hide h7
          clear h7
          by_cases h8 : r = 0
          · have h8' : (r != 0) = false := by simp [h8]
            have H8 := hide h8
            clear h8
            go_enter Try.func11, Try.ntmps11
            go_wp2_with (go_at_call 29; refine (between_any _ _ _ _).mono ?_; rintro e w' ⟨rfl, rfl⟩)
            go_ret
            exact ⟨by simp [chk, unhide HA, h5, h6, ridesF, unhide H7, unhide H8], (Below.refl _ _).alloc (Nat.le_refl _) _⟩
          · have h8' : (r != 0) = true := by simpa using h8
            have H8 := hide h8
            clear h8
            go_enter Try.func11, Try.ntmps11
            go_wp2_with (go_at_call 29; refine (between_any _ _ _ _).mono ?_; rintro e w' ⟨rfl, rfl⟩)
            go_ret
            exact ⟨by simp [chk, unhide HA, h5, h6, ridesF, unhide H7, unhide H8], (Below.refl _ _).alloc (Nat.le_refl _) _⟩
  · have hA' : inR i f t z = false := by simpa using hA
    have HA := hide hA'
    clear hA hA'
    have hpick : wi i 1 9999 = false ∨ (wi i 1 9999 = true ∧ wi f 0 9999 = false) ∨ (wi i 1 9999 = true ∧ wi f 0 9999 = true ∧ wi t 0 9999 = false) ∨ (wi i 1 9999 = true ∧ wi f 0 9999 = true ∧ wi t 0 9999 = true ∧ wi z 1 15 = false) := by
      have e := unhide HA
      rw [unhide Hin] at e
      cases a : wi i 1 9999 <;> cases b : wi f 0 9999 <;> cases c : wi t 0 9999 <;> cases d : wi z 1 15 <;> simp_all
    rcases hpick with h1 | ⟨h1, h2⟩ | ⟨h1, h2, h3⟩ | ⟨h1, h2, h3, h4⟩
    all_goals
      go_enter Try.func11, Try.ntmps11
      go_wp2_with (go_at_call 29; refine (between_any _ _ _ _).mono ?_; rintro e w' ⟨rfl, rfl⟩)
      go_ret
      exact ⟨by simp [chk, unhide HA], (Below.refl _ _).alloc (Nat.le_refl _) _⟩

theorem run_str8 (W : World) (g : Nat) (hg : g = W.heap.size) (n0 n1 n2 n3 n4 n5 n6 n7 : Int) (x0 x1 x2 x3 x4 x5 x6 x7 : UInt8)
    (h0 : n0 = (x0.toNat : Int)) (h1 : n1 = (x1.toNat : Int)) (h2 : n2 = (x2.toNat : Int)) (h3 : n3 = (x3.toNat : Int)) (h4 : n4 = (x4.toNat : Int)) (h5 : n5 = (x5.toNat : Int)) (h6 : n6 = (x6.toNat : Int)) (h7 : n7 = (x7.toNat : Int)) :
    (convert 40 9 (.slice (some ⟨g, 0, none⟩) 8 8)).run Try.prog (W.alloc (.cells #[.int .u8 n0, .int .u8 n1, .int .u8 n2, .int .u8 n3, .int .u8 n4, .int .u8 n5, .int .u8 n6, .int .u8 n7] 5)) =
      .ok (.string ⟨[x0, x1, x2, x3, x4, x5, x6, x7].toArray⟩) (W.alloc (.cells #[.int .u8 n0, .int .u8 n1, .int .u8 n2, .int .u8 n3, .int .u8 n4, .int .u8 n5, .int .u8 n6, .int .u8 n7] 5)) := by
  subst hg h0 h1 h2 h3 h4 h5 h6 h7
  refine run_str _ W.heap.size 8 8 0 [x0, x1, x2, x3, x4, x5, x6, x7] ?_
  exact World.ownsRow_lit (base := 0) (e := 5) (size := 1) W _ 8 (Nat.zero_le _) (by unfold maxLen; omega) rfl

set_option maxHeartbeats 1600000 in
theorem bytes_ok (i k f t z r : Nat) (w : World) (h : Right i k f t z r) :
    Calls Try.prog 12 #[tk i k f t z r] w fun e w' => e = .returned (S (encL i k f t z r)) ∧ Below w.heap.size w w' := by
  obtain ⟨i1, i2, k1, k2, f2, t2, ft, z1, z2, r2, r3, r0⟩ := h
  clear r3 r0
  have hs := run_str8 (w.alloc (.cells #[.int .i64 i, .int .i64 k, .int .i64 f, .int .i64 t, .int .i64 z, .int .i64 r] 23)) (w.heap.size + 1) (by simp)
    ((i : Int) / 256) ((i : Int) % 256) ((f : Int) / 256) ((f : Int) % 256) ((t : Int) / 256) ((t : Int) % 256) (16 * (k : Int) + (z : Int)) (r : Int)
    (UInt8.ofNat (i / 256)) (UInt8.ofNat i) (UInt8.ofNat (f / 256)) (UInt8.ofNat f) (UInt8.ofNat (t / 256)) (UInt8.ofNat t) (UInt8.ofNat (k * 16 + z)) (UInt8.ofNat r)
    (by simp only [UInt8.toNat_ofNat']; omega) (by simp only [UInt8.toNat_ofNat']; omega) (by simp only [UInt8.toNat_ofNat']; omega) (by simp only [UInt8.toNat_ofNat']; omega)
    (by simp only [UInt8.toNat_ofNat']; omega) (by simp only [UInt8.toNat_ofNat']; omega) (by simp only [UInt8.toNat_ofNat']; omega) (by simp only [UInt8.toNat_ofNat']; omega)
  rw [← encL_eq] at hs
  generalize hX : encL i k f t z r = X at hs ⊢
  clear hX
  go_enter Try.func12, Try.ntmps12
  go_wp2_with fail
  go_ret
  exact ⟨rfl, ((Below.refl _ _).alloc (Nat.le_refl _) _).alloc (by simp) _⟩

end Go.Proofs.Ytcakfmpckbmdeaa
