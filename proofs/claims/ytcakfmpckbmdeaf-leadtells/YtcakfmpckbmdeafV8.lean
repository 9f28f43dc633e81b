/-
  Views: 'CheckViews' (package leeboardref).
-/
import Derived.Test.YtcakfmpckbmdeafV3
import Derived.BigQuiet
import Derived.WalkSmall
namespace Go.Proofs.Ytcakfmpckbmdeaf
open Go.RowKit

theorem twoW_comm (a b : VW) : twoW a b = twoW b a := by
  rw [twoW, twoW, BEq.comm (a := a.e), bne_comm (a := a.l)]

theorem twoW_self (a : VW) : twoW a a = false := by simp [twoW]

theorem splW_pairs {L : List VW} (h : ∀ (i k : Nat) a b, k < i → L[i]? = some a → L[k]? = some b → twoW a b = false) : splW L = false := by
  rw [splW, List.any_eq_false]
  intro a ha
  rw [Bool.not_eq_true, List.any_eq_false]
  intro b hb
  rw [Bool.not_eq_true]
  obtain ⟨i, hi⟩ := List.mem_iff_getElem?.1 ha
  obtain ⟨k, hk⟩ := List.mem_iff_getElem?.1 hb
  rcases Nat.lt_trichotomy i k with hlt | heq | hgt
  · rw [twoW_comm]; exact h k i b a hlt hk hi
  · subst heq
    rw [hi] at hk
    cases hk
    exact twoW_self a
  · exact h i k a b hgt hi hk

theorem splW_pair {L : List VW} {a b : VW} (ha : a ∈ L) (hb : b ∈ L) (h : twoW a b = true) : splW L = true := by
  rw [splW, List.any_eq_true]
  exact ⟨a, ha, by rw [List.any_eq_true]; exact ⟨b, hb, h⟩⟩

theorem chkW_waysR (p : VW) : (wi p.e 0 99 = false ∧ chkW p = 3) ∨ (wi p.e 0 99 = true ∧ wi p.l 0 1 = false ∧ chkW p = 3) ∨ (wi p.e 0 99 = true ∧ wi p.l 0 1 = true ∧ (p.e == 0) = true ∧ (p.l == 1) = true ∧ chkW p = 4) ∨
    (wi p.e 0 99 = true ∧ wi p.l 0 1 = true ∧ (p.e == 0) = true ∧ (p.l == 1) = false ∧ chkW p = 0) ∨ (wi p.e 0 99 = true ∧ wi p.l 0 1 = true ∧ (p.e == 0) = false ∧ chkW p = 0) := by
  rcases chkW_ways p with h | h | ⟨h1, h2, h3, h4, h5⟩ | ⟨h1, h2, h3, h4, h5⟩ | h
  · exact Or.inl h
  · exact Or.inr (Or.inl h)
  · refine Or.inr (Or.inr (Or.inl ⟨h1, h2, h3, ?_, h5⟩))
    have := (wi_iff _ _ _).1 h2
    simp at h4 ⊢
    omega
  · refine Or.inr (Or.inr (Or.inr (Or.inl ⟨h1, h2, h3, ?_, h5⟩)))
    simp at h4 ⊢
    omega
  · exact Or.inr (Or.inr (Or.inr (Or.inr h)))

set_option maxHeartbeats 6400000 in
theorem checkViews_any (o : Option Addr) (cap : Nat) (L : List VW) (w : World) (hL : VwsAt w o L) (hlen : L.length ≤ 9223372036854775807) :
    Calls Try.prog 8 #[.slice o L.length cap] w fun x w' => x = .returned (.int .i64 (chkVs L)) ∧ Below w.heap.size w w' := by
  have HL := hide hL
  clear hL
  by_cases h3 : L.length = 3
  · have h3' : ((L.length : Int) != 3) = false := by simp [h3]
    have HC : Hid (chkVs L = if firstE (L.map chkW) = 0 then (if splW L = true then 4 else 0) else firstE (L.map chkW)) := by
      show _ = _
      rw [chkVs, if_pos h3]
    generalize chkVs L = R at *
    have H3 := hide h3
    clear h3
    go_enter Try.func8, Try.ntmps8
    go_wp2_with fail
    go_loopw [3] (fun j wr => ∃ (q : Nat), q ≤ 3 ∧ j = .int .i64 q ∧ Hid (firstE (L.map chkW) = firstE ((L.drop q).map chkW)) ∧ wr = w) (fun j _ => 3 - (intOf j).toNat)
    case atStart => exact ⟨0, by omega, rfl, by show _ = _; simp, rfl⟩
    case round =>
      obtain ⟨q, hq, rfl, hE, hw⟩ := hrel
      obtain rfl := hw.symm
      by_cases hgo : q < 3
      · obtain ⟨p, hp⟩ : ∃ p, L[q]? = some p := ⟨L[q]'(by have := H3.out; omega), by simp⟩
        have hqL : (q : Int) < (L.length : Int) := by have := H3.out; omega
        have hq3 : (q : Int) < 3 := by omega
        obtain ⟨A, rfl, c0, c1, c2⟩ := HL.out q p hp
        have hE' := hE.out
        rw [dropW hp, List.map_cons, firstE_cons] at hE'
        clear hE hp
        have HE := hide hE'
        clear hE'
        rcases chkW_waysR p with ⟨h1, h4⟩ | ⟨h1, h2, h4⟩ | ⟨h1, h2, h5, h6, h4⟩ | ⟨h1, h2, h5, h6, h4⟩ | ⟨h1, h2, h5, h4⟩
        all_goals
          rw [h4] at HE
          clear h4
        · have HR : Hid (R = 3) := by
            show _ = _
            have h1 := HE.out
            rw [if_neg (by decide)] at h1
            have h2 := HC.out
            rw [h1, if_neg (by decide)] at h2
            exact h2
          clear HC HE
          go_wp2_with (go_at_call 23; refine (between_any _ _ _ _).mono ?_; rintro e w' ⟨rfl, hw'⟩; obtain rfl := hw'.symm; try simp only [h1]; try simp only [h2])
          go_ret
          exact ⟨by rw [HR.out]; rfl, Below.refl _ _⟩
        · have HR : Hid (R = 3) := by
            show _ = _
            have h1 := HE.out
            rw [if_neg (by decide)] at h1
            have h2 := HC.out
            rw [h1, if_neg (by decide)] at h2
            exact h2
          clear HC HE
          go_wp2_with (go_at_call 23; refine (between_any _ _ _ _).mono ?_; rintro e w' ⟨rfl, hw'⟩; obtain rfl := hw'.symm; try simp only [h1]; try simp only [h2])
          go_ret
          exact ⟨by rw [HR.out]; rfl, Below.refl _ _⟩
        · have HR : Hid (R = 4) := by
            show _ = _
            have h1 := HE.out
            rw [if_neg (by decide)] at h1
            have h2 := HC.out
            rw [h1, if_neg (by decide)] at h2
            exact h2
          clear HC HE
          go_wp2_with (go_at_call 23; refine (between_any _ _ _ _).mono ?_; rintro e w' ⟨rfl, hw'⟩; obtain rfl := hw'.symm; try simp only [h1]; try simp only [h2])
          go_ret
          exact ⟨by rw [HR.out]; rfl, Below.refl _ _⟩
        · have HE' := hide (show firstE (L.map chkW) = firstE ((L.drop (q + 1)).map chkW) from HE.out)
          clear HE
          go_wp2_with (go_at_call 23; refine (between_any _ _ _ _).mono ?_; rintro e w' ⟨rfl, hw'⟩; obtain rfl := hw'.symm; try simp only [h1]; try simp only [h2])
          exact ⟨⟨q + 1, by omega, by simp, HE', by first | rfl | trivial⟩, by simp [intOf]; omega⟩
        · have HE' := hide (show firstE (L.map chkW) = firstE ((L.drop (q + 1)).map chkW) from HE.out)
          clear HE
          go_wp2_with (go_at_call 23; refine (between_any _ _ _ _).mono ?_; rintro e w' ⟨rfl, hw'⟩; obtain rfl := hw'.symm; try simp only [h1]; try simp only [h2])
          exact ⟨⟨q + 1, by omega, by simp, HE', by first | rfl | trivial⟩, by simp [intOf]; omega⟩
      · have HR : Hid (R = if splW L = true then 4 else 0) := by
          show _ = _
          have h1 := hE.out
          rw [List.drop_of_length_le (by have := H3.out; omega)] at h1
          have h2 := HC.out
          rw [h1] at h2
          simpa [firstE] using h2
        have hq3 : ¬ ((q : Int) < 3) := by omega
        clear HC hE
        go_wp2_with fail
        go_loopw [4] (fun j wr => ∃ (i : Nat), i ≤ 3 ∧ j = .int .i64 i ∧ Hid (∀ (i' k : Nat) a b, k < i' → i' < i → L[i']? = some a → L[k]? = some b → twoW a b = false) ∧ Hid (Below w.heap.size w wr)) (fun j _ => 3 - (intOf j).toNat)
        case atStart => exact ⟨0, by omega, rfl, fun i' k a b h1 h2 => by omega, Below.refl _ _⟩
        case round =>
          obtain ⟨i, hi, rfl, hN, hB⟩ := hrel
          by_cases hgi : i < 3
          · obtain ⟨a, ha⟩ : ∃ a, L[i]? = some a := ⟨L[i]'(by have := H3.out; omega), by simp⟩
            have hiL : (i : Int) < (L.length : Int) := by have := H3.out; omega
            have hi3 : (i : Int) < 3 := by omega
            have HA := hide ha
            clear ha
            go_wp2_with fail
            go_loopw [5] (fun j ws => ∃ (k : Nat), k ≤ i ∧ j = .int .i64 k ∧ Hid (∀ (k' : Nat) b, k' < k → L[k']? = some b → twoW a b = false) ∧ Hid (Below w.heap.size w ws)) (fun j _ => i - (intOf j).toNat)
            case atStart => exact ⟨0, by omega, rfl, fun k' b h1 => by omega, hB⟩
            case round =>
              obtain ⟨k, hk, rfl, hK, hB'⟩ := hrel
              by_cases hgk : k < i
              · obtain ⟨b, hb⟩ : ∃ b, L[k]? = some b := ⟨L[k]'(by have := H3.out; omega), by simp⟩
                have hkL : (k : Int) < (L.length : Int) := by have := H3.out; omega
                have hkI : (k : Int) < (i : Int) := by omega
                obtain ⟨A, rfl, c0, c1, c2⟩ := (HL.out.below hB'.out) i a HA.out
                obtain ⟨A', eA, d0, d1, d2⟩ := (HL.out.below hB'.out) k b hb
                cases eA
                have HBb := hide hb
                clear hb
                have hp : ((a.e == b.e) = true ∧ (a.l != b.l) = true ∧ twoW a b = true) ∨ ((a.e == b.e) = true ∧ (a.l != b.l) = false ∧ twoW a b = false) ∨ ((a.e == b.e) = false ∧ twoW a b = false) := by
                  rw [twoW]
                  cases (a.e == b.e) <;> cases (a.l != b.l) <;> simp
                rcases hp with ⟨h1, h2, h4⟩ | ⟨h1, h2, h4⟩ | ⟨h1, h4⟩
                · have HR' := hide (show R = 4 by rw [HR.out, splW_pair (List.mem_of_getElem? HA.out) (List.mem_of_getElem? HBb.out) h4]; rfl)
                  clear h4
                  go_wp2_with fail
                  go_quiet (fail)
                  go_wp2_with fail
                  go_ret
                  exact ⟨by rw [HR'.out]; rfl, below_drewN hB'.out _⟩
                · have HK' : Hid (∀ (k' : Nat) b, k' < k + 1 → L[k']? = some b → twoW a b = false) := fun k' b' hk' hb' => by
                    rcases Nat.lt_or_ge k' k with h | h
                    · exact hK.out k' b' h hb'
                    · obtain rfl : k' = k := by omega
                      rw [HBb.out] at hb'
                      cases hb'
                      exact h4
                  clear h4
                  go_wp2_with fail
                  go_quiet (fail)
                  go_wp2_with fail
                  exact ⟨⟨k + 1, by omega, by simp, HK', below_drewN hB'.out _⟩, by simp [intOf]; omega⟩
                · have HK' : Hid (∀ (k' : Nat) b, k' < k + 1 → L[k']? = some b → twoW a b = false) := fun k' b' hk' hb' => by
                    rcases Nat.lt_or_ge k' k with h | h
                    · exact hK.out k' b' h hb'
                    · obtain rfl : k' = k := by omega
                      rw [HBb.out] at hb'
                      cases hb'
                      exact h4
                  clear h4
                  go_wp2_with fail
                  go_quiet (fail)
                  go_wp2_with fail
                  exact ⟨⟨k + 1, by omega, by simp, HK', below_drewN hB'.out _⟩, by simp [intOf]; omega⟩
              · have hkI : ¬ ((k : Int) < (i : Int)) := by omega
                have HN' : Hid (∀ (i' k : Nat) a b, k < i' → i' < i + 1 → L[i']? = some a → L[k]? = some b → twoW a b = false) := fun i' k' a' b' h1 h2 ha' hb' => by
                  rcases Nat.lt_or_ge i' i with h | h
                  · exact hN.out i' k' a' b' h1 h ha' hb'
                  · obtain rfl : i' = i := by omega
                    rw [HA.out] at ha'
                    cases ha'
                    exact hK.out k' b' (by omega) hb'
                go_wp2_with fail
                exact ⟨⟨i + 1, by omega, by simp, HN', hB'⟩, by simp [intOf]; omega⟩
          · have hi3 : ¬ ((i : Int) < 3) := by omega
            have HR' := hide (show R = 0 by
              rw [HR.out, splW_pairs (fun i' k a b h1 h2 h3 => hN.out i' k a b h1 (by have := (List.getElem?_eq_some_iff.1 h2).1; have := H3.out; omega) h2 h3)]
              rfl)
            clear hN
            go_wp2_with fail
            go_ret
            exact ⟨by rw [HR'.out]; rfl, hB.out⟩
  · have h3' : ((L.length : Int) != 3) = true := by simp; omega
    have hR : chkVs L = 1 := by rw [chkVs, if_neg h3]
    rw [hR]
    clear hR h3
    go_enter Try.func8, Try.ntmps8
    go_wp2_with fail
    go_ret
    exact ⟨rfl, Below.refl _ _⟩
end Go.Proofs.Ytcakfmpckbmdeaf
