/-
  What is wrong with a list of what is denied: 'CheckDenied' (the document's answer).
-/
import Derived.Test.YtcakfmpckbmdeacN1
namespace Go.Proofs.Ytcakfmpckbmdeac
open Go.RowKit

set_option maxHeartbeats 1600000 in
theorem checkDenied_any (v : Int) (L : List Int) (o : Option Addr) (c : Nat) (w : World) (hL : IntsAt w o L) (hlen : L.length ≤ 9223372036854775807) :
    Calls Try.prog 19 #[dn v o L.length c] w fun e w' => e = .returned (.int .i64 (chkD v L)) ∧ Below w.heap.size w w' := by
  have hBa := (Blks.nil w).more (.cells #[.int .i64 v, .slice o L.length c] 45) (by simp)
  have HL := hide hL
  clear hL
  rcases chkD_ways v L with ⟨h1, h4⟩ | ⟨h1, h2, h4⟩ | h3
  · rw [h4]
    have HBa := hide hBa
    clear hBa h4
    go_enter Try.func19, Try.ntmps19
    go_wp2_with (go_at_call 60; refine (between_any _ _ _ _).mono ?_; rintro e w' ⟨rfl, rfl⟩; rw [h1])
    go_ret
    exact ⟨rfl, HBa.out.2.2⟩
  · rw [h4]
    have HBa := hide hBa
    clear hBa h4
    go_enter Try.func19, Try.ntmps19
    go_wp2_with (go_at_call 60; refine (between_any _ _ _ _).mono ?_; rintro e w' ⟨rfl, rfl⟩; rw [h1])
    go_ret
    exact ⟨rfl, HBa.out.2.2⟩
  · have h1 : wi v 0 999 = true := by rcases h3 with h | h | h <;> exact h.1
    have h2 : ¬ 12 < L.length := by rcases h3 with h | h | h <;> exact h.2.1
    have HE : Hid ((errD 0 L ≠ 0 → chkD v L = errD 0 L) ∧ (errD 0 L = 0 → v < L.length → chkD v L = 4) ∧ (errD 0 L = 0 → ¬ v < L.length → chkD v L = 0)) := by
      rcases h3 with h | h | h
      · exact ⟨fun _ => h.2.2.2, fun h0 => absurd h0 h.2.2.1, fun h0 => absurd h0 h.2.2.1⟩
      · exact ⟨fun h0 => absurd h.2.2.1 h0, fun _ _ => h.2.2.2.2, fun _ h0 => absurd h.2.2.2.1 h0⟩
      · exact ⟨fun h0 => absurd h.2.2.1 h0, fun _ h0 => absurd h0 h.2.2.2.1, fun _ _ => h.2.2.2.2⟩
    have HBa := hide hBa
    clear hBa h3
    go_enter Try.func19, Try.ntmps19
    go_wp2_with (go_at_call 60; refine (between_any _ _ _ _).mono ?_; rintro e w' ⟨rfl, rfl⟩; rw [h1])
    go_loopw [3] (fun j wr => ∃ (q : Nat) (x : Int), q ≤ L.length ∧ j = .int .i64 q ∧ Hid (errD 0 L = errD x (L.drop q) ∧ (q = 0 → x = 0) ∧ (∀ k, q = k + 1 → L[k]? = some x)) ∧ Hid (Blks w wr ([] ++ [.cells #[.int .i64 v, .slice o L.length c] 45]))) (fun j _ => L.length - (intOf j).toNat)
    case atStart => exact ⟨0, 0, Nat.zero_le _, rfl, ⟨by simp, fun _ => rfl, fun k h => by omega⟩, HBa⟩
    case round =>
      obtain ⟨q, l, hq, rfl, hE, HB⟩ := hrel
      have c0 := HB.out.cell 0 0 w.heap.size _ _ _ rfl rfl rfl
      have c1 := HB.out.cell 0 1 w.heap.size _ _ _ rfl rfl rfl
      by_cases hgo : q < L.length
      · obtain ⟨x, hx⟩ : ∃ x, L[q]? = some x := ⟨L[q], by simp [hgo]⟩
        obtain ⟨A, rfl, d0⟩ := HL.out.below HB.out.2.2 q x hx
        have hE' := hE.out.1
        rw [drop_cons hx] at hE'
        have hp := errD_ways l x (L.drop (q + 1))
        rw [← hE'] at hp
        have HX : Hid (∀ k, q + 1 = k + 1 → L[k]? = some x) := fun k hk => by
          obtain rfl : q = k := by omega
          exact hx
        clear hE' hx
        rcases hp with ⟨h5, h6⟩ | ⟨h5, h7, h6⟩ | ⟨h5, h7, h6⟩
        all_goals
          have H6 := hide h6
          clear h6
        · go_wp2_with (go_at_call 60; refine (between_any _ _ _ _).mono ?_; rintro e w' ⟨rfl, rfl⟩; rw [h5])
          go_ret
          exact ⟨by rw [HE.out.1 (by rw [H6.out]; decide), H6.out]; rfl, HB.out.2.2⟩
        all_goals
          have hx1 : 1 ≤ x := ((wi_iff _ _ _).1 h5).1
          rcases q with _ | k
        · obtain rfl : l = 0 := hE.out.2.1 rfl
          omega
        · obtain ⟨A', hA', e0⟩ := HL.out.below HB.out.2.2 k l (hE.out.2.2 k rfl)
          cases hA'
          have d1 : wr.cell? ⟨A.block, A.off + (k + 1), none⟩ = some (.int .i64 x) := by simpa [Addr.add] using d0
          go_wp2_with (go_at_call 60; refine (between_any _ _ _ _).mono ?_; rintro e w' ⟨rfl, rfl⟩; rw [h5])
          go_region
          go_wp2_with fail
          go_ret
          exact ⟨by rw [HE.out.1 (by rw [H6.out]; decide), H6.out]; rfl, (HB.out.on (Below.refl _ _).drew).2.2⟩
        · have d1 : wr.cell? A = some (.int .i64 x) := by simpa [Addr.add] using d0
          have HN : Hid (errD 0 L = errD x (L.drop (0 + 1)) ∧ (0 + 1 = 0 → x = 0) ∧ (∀ k, 0 + 1 = k + 1 → L[k]? = some x)) := ⟨H6.out, fun h => by omega, HX.out⟩
          go_wp2_with (go_at_call 60; refine (between_any _ _ _ _).mono ?_; rintro e w' ⟨rfl, rfl⟩; rw [h5])
          go_region
          go_wp2_with fail
          exact ⟨⟨0 + 1, x, by omega, by simp, HN, HB.out.on (Below.refl _ _).drew⟩, by simp [intOf]; omega⟩
        · obtain ⟨A', hA', e0⟩ := HL.out.below HB.out.2.2 k l (hE.out.2.2 k rfl)
          cases hA'
          have d1 : wr.cell? ⟨A.block, A.off + (k + 1), none⟩ = some (.int .i64 x) := by simpa [Addr.add] using d0
          have HN : Hid (errD 0 L = errD x (L.drop (k + 1 + 1)) ∧ (k + 1 + 1 = 0 → x = 0) ∧ (∀ j, k + 1 + 1 = j + 1 → L[j]? = some x)) := ⟨H6.out, fun h => by omega, HX.out⟩
          go_wp2_with (go_at_call 60; refine (between_any _ _ _ _).mono ?_; rintro e w' ⟨rfl, rfl⟩; rw [h5])
          go_region
          go_wp2_with fail
          exact ⟨⟨k + 1 + 1, x, by omega, by simp, HN, HB.out.on (Below.refl _ _).drew⟩, by simp [intOf]; omega⟩
      · have hE' := hE.out.1
        rw [List.drop_of_length_le (by omega)] at hE'
        by_cases h5 : v < L.length
        · have H6 := hide (HE.out.2.1 hE' h5)
          clear hE'
          go_wp2_with fail
          go_ret
          exact ⟨by rw [H6.out]; rfl, HB.out.2.2⟩
        · have H6 := hide (HE.out.2.2 hE' (by omega))
          clear hE'
          go_wp2_with fail
          go_ret
          exact ⟨by rw [H6.out]; rfl, HB.out.2.2⟩
end Go.Proofs.Ytcakfmpckbmdeac
