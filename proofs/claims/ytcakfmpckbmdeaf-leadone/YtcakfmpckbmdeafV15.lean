/-
  The walk of LeadOne.
-/
import Derived.Test.YtcakfmpckbmdeafV12
import Derived.Test.YtcakfmpckbmdeafV17
namespace Go.Proofs.Ytcakfmpckbmdeaf
open Go.RowKit

set_option maxRecDepth 100000 in
set_option maxHeartbeats 6400000 in
theorem leadOne_walk (o : Option Addr) (L : List VW) (cap : Nat) (who voter : Int) (up : Bool) (w : World) (hL : VwsOk w o L cap) :
    Calls Try.prog 4 #[.slice o L.length cap, .int .i64 who, .int .i64 voter, .bool up] w fun e w' => e = .returned (.bool true) ∧ Below w.heap.size w w' := by
  have HW := hide (fun W (h : VwsAt W o L) => win_any o cap L who W h hL.2.1)
  have HL := hide hL.1
  clear hL
  have hways : (winE L who ≠ 0) ∨ (winE L who = 0 ∧ winB L who = false ∧ winR L who = L ∧ L.length ≤ 100) ∨ (unfW L who 1 = 0 ∧ upAt L who = true ∧ mostW upG L = true ∧ (topW L).e ≠ 99 ∧ winE L who = 0 ∧ winB L who = true ∧ winR L who = promW L ((topW L).e + 1) who) := by
    rcases winE_ways L who with ⟨h1, h2, -⟩ | ⟨h1, -, h2, h3, h4⟩ | ⟨h1, -, -, h2, h3, h4⟩ | ⟨-, -, -, -, h2, -⟩ | h
    · left; rw [h2]; exact h1
    · right; left; exact ⟨h2, h3, h4, by have := right_len (unfW_right h1).1; omega⟩
    · right; left; exact ⟨h2, h3, h4, by have := right_len (unfW_right h1).1; omega⟩
    · left; rw [h2]; decide
    · right; right; exact h
  rcases hways with h1 | ⟨h1, h2, h3, h4⟩ | ⟨h1, h2, h3, h4, h5, h6, h7⟩
  · have h1' : (winE L who != 0) = true := by simpa using h1
    clear h1
    generalize winE L who = E at *
    generalize winB L who = B at *
    go_enter Try.func4, Try.ntmps4
    go_wp2_with fail
    refine (HW.out _ HL.out).mono ?_
    rintro e w1 ⟨⟨o1, n1, c1, rfl, -, -⟩, hb1⟩
    have HB1 := hide hb1
    clear hb1
    go_wp2_with fail
    refine (leadBegun_any _).mono ?_
    rintro e w2 ⟨rfl, hb2⟩
    have HB2 := hide (HB1.out.trans (hb2.mono HB1.out.size))
    clear hb2
    go_wp2_with fail
    go_ret
    exact ⟨rfl, HB2.out⟩
  · rw [h1, h2, h3] at HW
    clear h1 h2 h3
    go_enter Try.func4, Try.ntmps4
    go_wp2_with fail
    refine (HW.out _ HL.out).mono ?_
    rintro e w1 ⟨⟨o1, n1, c1, rfl, hv1, -⟩, hb1⟩
    obtain ⟨rfl, hv1, -⟩ := hv1.open3
    have HV1 := hide hv1
    have HL1 := hide (HL.out.below hb1)
    have HB1 := hide hb1
    clear hb1 hv1
    go_wp2_with fail
    refine (leadBegun_any _).mono ?_
    rintro e w2 ⟨rfl, hb2⟩
    have HV2 := hide (HV1.out.below hb2)
    have HL2 := hide (HL1.out.below hb2)
    have HB2 := hide (HB1.out.trans (hb2.mono HB1.out.size))
    clear hb2
    go_wp2_with fail
    refine (sameViews_same L o1 o c1 cap _ HV2.out HL2.out h4).mono ?_
    rintro e w3 ⟨rfl, hb3⟩
    have HB3 := hide (HB2.out.trans (hb3.mono HB2.out.size))
    clear hb3
    go_wp2_with fail
    go_ret
    exact ⟨rfl, HB3.out⟩
  · obtain ⟨hA, ht1, ht2, hat, hT, hnb, hni⟩ := win_leads h1 h2 h3 h4
    rw [h5, h6, h7] at HW
    obtain ⟨-, hw0, hw1⟩ := unfW_right h1
    clear h1 h2 h3 h4 h5 h6 h7
    generalize promW L ((topW L).e + 1) who = A at *
    generalize (topW L).e + 1 = T at *
    obtain ⟨k, rfl⟩ : ∃ k : Nat, who = (k : Int) := ⟨who.toNat, by omega⟩
    simp only [Int.toNat_natCast] at hat
    have hlA := right_len hA
    have HN := hide (fun W o c (h : VwsAt W o A) => now_any o c A W h (by omega))
    have HK := hide (fun W o c (h : VwsAt W o A) => leadCheck_any o c A W h (by omega))
    have HS := hide (fun W o c (h : VwsAt W o A) => set_any o c A voter up W h (by omega))
    rw [hnb, hni, hA] at HN
    rw [hA] at HK
    have HAT := hide hat
    have hk2 : (k : Int) ≤ 1 := hw1
    have hkA : (k : Int) < (A.length : Int) := by omega
    have hsw := setR_ways A voter up
    have HLA := hide hlA
    have HT1 := hide ht1
    have HT2 := hide ht2
    have HTp := hide hT
    have HSW := hide hsw
    clear hA ht1 ht2 hat hnb hni hw0 hw1 hlA hsw hT
    go_enter Try.func4, Try.ntmps4
    go_wp2_with fail
    refine (HW.out _ HL.out).mono ?_
    rintro e w1 ⟨⟨o1, n1, c1, rfl, hv1, -⟩, hb1⟩
    obtain ⟨rfl, hv1, -⟩ := hv1.open3
    have HV1 := hide hv1
    have HB1 := hide hb1
    clear hb1 hv1
    go_wp2_with fail
    refine (leadBegun_any _).mono ?_
    rintro e w2 ⟨rfl, hb2⟩
    have HV2 := hide (HV1.out.below hb2)
    have HB2 := hide (HB1.out.trans (hb2.mono HB1.out.size))
    clear hb2 HV1 HB1
    go_wp2_with fail
    refine (HN.out _ o1 c1 HV2.out).mono ?_
    rintro e w3 ⟨rfl, hb3⟩
    have HV3 := hide (HV2.out.below hb3)
    have HB3 := hide (HB2.out.trans (hb3.mono HB2.out.size))
    clear hb3 HV2 HB2
    go_wp2_with fail
    refine (HK.out _ o1 c1 HV3.out).mono ?_
    rintro e w4 ⟨rfl, hb4⟩
    have HV4 := hide (HV3.out.below hb4)
    have HB4 := hide (HB3.out.trans (hb4.mono HB3.out.size))
    clear hb4 HV3 HB3
    go_wp2_with fail
    refine (HS.out _ o1 c1 HV4.out).mono ?_
    rintro e w5 ⟨⟨o5, n5, c5, rfl, hv5, -⟩, hb5⟩
    have HV5 := hide (HV4.out.below hb5)
    have HB5 := hide (HB4.out.trans (hb5.mono HB4.out.size))
    clear hb5 HV4 HB4
    rcases HSW.out with ⟨h2, hr2⟩ | ⟨h2, hr2⟩
    · have h2' : (unfW A voter 2 != 0) = true := by simpa using h2
      rw [hr2] at hv5
      obtain ⟨rfl, -⟩ := hv5.open3
      clear hv5 h2 hr2 HS HSW
      generalize unfW A voter 2 = E2 at *
      go_wp2_with fail
      go_ret
      exact ⟨rfl, HB5.out⟩
    · rw [hr2] at hv5
      obtain ⟨rfl, hv5, -⟩ := hv5.open3
      have HW5 := hide hv5
      obtain ⟨hs1, hs2⟩ := setL_top (up := up) h2
      have hB := setL_right (up := up) h2
      rw [HT1.out] at hs1
      rw [HT2.out] at hs2
      obtain ⟨hn1, hn2⟩ := now_of hB hs1 hs2 (by have := HTp.out; omega)
      have hlB := right_len hB
      rw [h2]
      clear hv5 h2 hr2 HS HSW hs1 hs2
      generalize setL A voter up = B at *
      have hNB := fun W o c (h : VwsAt W o B) => now_any o c B W h (by omega)
      rw [hB] at hNB
      have HNB := hide hNB
      obtain ⟨pk, hpk⟩ : ∃ pk, B[k]? = some pk := ⟨B[k]'(by omega), by simp⟩
      have hupk : upAt B k = pk.u := by simp [upAt, hpk]
      rw [hupk] at hn1
      have HPK := hide hpk
      have HN1 := hide hn1
      have HN2 := hide hn2
      have HLB := hide hlB
      have HB0 := hide hB
      have hkB : (k : Int) < (B.length : Int) := by omega
      have hu1 : unfW B (1 - (k : Int)) 1 = 0 := by
        rw [unfW, if_pos hB, if_pos (by rw [wi_iff]; omega)]
      have HU1 := hide hu1
      have HWB := hide (fun W o c (h : VwsAt W o B) => win_any o c B (1 - (k : Int)) W h (by omega))
      have hBl : B.length ≤ 60 := by omega
      have hAl : A.length ≤ 60 := by have := HLA.out; omega
      clear hNB hpk hupk hn1 hn2 hlB hB hu1
      generalize nowB B = nb at *
      generalize nowI B = ni at *
      go_wp2_with fail
      refine (HNB.out _ o5 c5 HW5.out).mono ?_
      rintro e w6 ⟨rfl, hb6⟩
      have HV6 := hide (HV5.out.below hb6)
      have HW6 := hide (HW5.out.below hb6)
      have HB6 := hide (HB5.out.trans (hb6.mono HB5.out.size))
      clear hb6 HV5 HW5 HB5
      go_wp2_with fail
      go_loopw [18, 19] (fun n j ws => ∃ (q c : Nat), q ≤ A.length ∧ c ≤ q ∧ j = .int .i64 q ∧ n = .int .i64 c ∧ Hid (c = (B.take q).countP (upE T)) ∧ Hid (Below w6.heap.size w6 ws)) (fun _ j _ => A.length - (intOf j).toNat)
      case atStart => exact ⟨0, 0, by omega, by omega, rfl, rfl, by show _ = _; simp, Below.refl _ _⟩
      case round =>
        obtain ⟨q, c, hq, hc, rfl, rfl, hS, hBr⟩ := hrel
        by_cases hgo : q < A.length
        · obtain ⟨p, hp⟩ : ∃ p, B[q]? = some p := ⟨B[q]'(by have := HLA.out; have := HLB.out; omega), by simp⟩
          have hqB : (q : Int) < (B.length : Int) := by have := HLA.out; have := HLB.out; omega
          have hqA : (q : Int) < (A.length : Int) := by omega
          obtain ⟨Ad, rfl, c0, c1, c2⟩ := (HW6.out.below hBr.out) q p hp
          obtain ⟨Ak, rfl, d0, d1, d2⟩ := (HV6.out.below hBr.out) k _ HAT.out
          simp only [] at d0 d1 d2
          have HS : Hid ((B.take (q + 1)).countP (upE T) = c + (if upE T p = true then 1 else 0)) := by
            show _ = _
            rw [List.take_add_one, hp, Option.toList_some, List.countP_append, ← hS.out]; simp [List.countP_cons]
          clear hp hS
          obtain ⟨pe, pl, pu⟩ := p
          simp only [] at c0 c1 c2
          have u2 : upE T ⟨pe, pl, pu⟩ = (pu && (pe == T)) := rfl
          rw [u2] at HS
          clear u2
          cases pu
          · have HS' := hide (show c = (B.take (q + 1)).countP (upE T) by rw [HS.out]; simp)
            clear HS
            go_wp2_with fail
            go_quiet (fail)
            go_wp2_with fail
            exact ⟨⟨q + 1, c, by omega, by omega, by simp, rfl, HS', below_drewN hBr.out _⟩, by simp [intOf]; omega⟩
          · cases h1 : (pe == T)
            · have HS' := hide (show c = (B.take (q + 1)).countP (upE T) by rw [HS.out, h1]; simp)
              clear HS
              go_wp2_with fail
              go_quiet (fail)
              go_wp2_with fail
              exact ⟨⟨q + 1, c, by omega, by omega, by simp, rfl, HS', below_drewN hBr.out _⟩, by simp [intOf]; omega⟩
            · have HS' := hide (show c + 1 = (B.take (q + 1)).countP (upE T) by rw [HS.out, h1]; simp)
              clear HS
              go_wp2_with fail
              go_quiet (fail)
              go_wp2_with fail
              exact ⟨⟨q + 1, c + 1, by omega, by omega, by simp, by simp, HS', below_drewN hBr.out _⟩, by simp [intOf]; omega⟩
        · have hqA : ¬ ((q : Int) < (A.length : Int)) := by omega
          have hS' := hS.out
          rw [List.take_of_length_le (by have := HLA.out; have := HLB.out; omega)] at hS'
          have hn1 := HN1.out
          rw [← hS'] at hn1
          obtain ⟨pe, pl, pu⟩ := pk
          simp only [] at hn1
          obtain ⟨Ad, rfl, c0, c1, c2⟩ := (HW6.out.below hBr.out) k _ HPK.out
          simp only [] at c0 c1 c2
          have hmW : (nb = false ∧ pu = false) ∨ (nb = false ∧ pu = true ∧ ¬ (2 : Int) ≤ c) ∨ (nb = true ∧ pu = true ∧ (2 : Int) ≤ c ∧ ni = (k : Int)) := by
            cases pu
            · left; exact ⟨by rw [hn1]; simp, rfl⟩
            · right
              by_cases h2 : (2 : Int) ≤ c
              · right
                have e1 : nb = true := by rw [hn1]; simp; omega
                exact ⟨e1, rfl, h2, by rw [HN2.out, e1]; rfl⟩
              · left; exact ⟨by rw [hn1]; simp; omega, rfl, h2⟩
          have HX7 := hide (HW6.out.below hBr.out)
          have HB7 := hide (HB6.out.trans (hBr.out.mono HB6.out.size))
          have hwr : IntKind.i64.wrap (1 - (k : Int)) = 1 - (k : Int) := by rw [IntKind.wrap_i64]; omega
          have HMW := hide hmW
          clear hS hS' hn1 hmW HV6 HW6 HB6 HN1 HN2
          rcases HMW.out with ⟨rfl, rfl⟩ | ⟨rfl, rfl, h2⟩ | ⟨rfl, rfl, h2, rfl⟩
          all_goals
            go_wp2_with fail
            refine (HWB.out _ _ c5 HX7.out).mono ?_
            rintro e w8 ⟨⟨o8, n8, c8, rfl, hv8, -⟩, hb8⟩
            obtain ⟨rfl, hv8, -⟩ := hv8.open3
            have HV8 := hide hv8
            have HB8 := hide (HB7.out.trans (hb8.mono HB7.out.size))
            clear hv8 hb8 HB7 HX7 c0 c1 c2
            have hlR : (winR B (1 - (k : Int))).length ≤ 9223372036854775807 := by
              rw [winR, winL]
              split
              · split
                · rw [promW_len]; omega
                · omega
              · simp
            have HN8 := hide (fun W o c (h : VwsAt W o (winR B (1 - (k : Int)))) => now_any o c (winR B (1 - (k : Int))) W h hlR)
            have h3 : (winE B (1 - (k : Int)) = 2) ∨ (winE B (1 - (k : Int)) = 0 ∧ winB B (1 - (k : Int)) = false ∧ chkVs (winR B (1 - (k : Int))) = 0) ∨ (winE B (1 - (k : Int)) = 0 ∧ winB B (1 - (k : Int)) = true ∧ chkVs (winR B (1 - (k : Int))) = 0 ∧ nowB (winR B (1 - (k : Int))) = true ∧ nowI (winR B (1 - (k : Int))) = (1 - (k : Int))) := by
              rcases winE_ways B (1 - (k : Int)) with ⟨h1, -⟩ | ⟨h1, -, h2, h3, h4⟩ | ⟨h1, -, -, h2, h3, h4⟩ | ⟨-, -, -, -, h2, -⟩ | ⟨g1, g2, g3, g4, g5, g6, g7⟩
              · exact absurd HU1.out h1
              · right; left; exact ⟨h2, h3, by rw [h4]; exact HB0.out⟩
              · right; left; exact ⟨h2, h3, by rw [h4]; exact HB0.out⟩
              · left; exact h2
              · right; right
                obtain ⟨m1, -, -, -, -, m2, m3⟩ := win_leads g1 g2 g3 g4
                rw [g7]
                exact ⟨g5, g6, m1, m2, m3⟩
            clear hlR HWB
            generalize winR B (1 - (k : Int)) = C at *
            generalize winE B (1 - (k : Int)) = WE at *
            generalize winB B (1 - (k : Int)) = WB at *
            have H3 := hide h3
            clear h3
            generalize nowB C = cb at *
            generalize nowI C = ci at *
            generalize chkVs C = ce at *
            go_wp2_with fail
            refine (HN8.out _ o8 c8 HV8.out).mono ?_
            rintro e w9 ⟨rfl, hb9⟩
            have HB9 := hide (HB8.out.trans (hb9.mono HB8.out.size))
            clear hb9 HB8 HV8
            rcases H3.out with rfl | ⟨rfl, rfl, rfl⟩ | ⟨rfl, rfl, rfl, rfl, rfl⟩
            all_goals
              go_wp2_with fail
              go_ret
              exact ⟨rfl, HB9.out⟩
end Go.Proofs.Ytcakfmpckbmdeaf
