/-
  The walk of LeadNone.
-/
import Derived.Test.YtcakfmpckbmdeaeV12
import Derived.Test.YtcakfmpckbmdeaeV13
namespace Go.Proofs.Ytcakfmpckbmdeae
open Go.RowKit

set_option maxHeartbeats 3200000 in
set_option maxRecDepth 100000 in
theorem leadNone_walk (o : Option Addr) (L : List VW) (cap : Nat) (a b who : Int) (w : World) (hL : VwsOk w o L cap) :
    Calls Try.prog 7 #[.slice o L.length cap, .int .i64 a, .int .i64 b, .int .i64 who] w fun e w' => e = .returned (.bool true) ∧ Below w.heap.size w w' := by
  have HS := hide (fun W (h : VwsAt W o L) => set_any o cap L a false W h hL.2.1)
  have HL := hide hL.1
  clear hL
  rcases setR_ways L a false with ⟨h1, hr⟩ | ⟨h1, hr⟩
  · have h1' : (unfW L a 2 != 0) = true := by simpa using h1
    rw [hr] at HS
    clear h1 hr
    generalize unfW L a 2 = E at *
    go_enter Try.func7, Try.ntmps7
    go_wp2_with fail
    refine (HS.out _ HL.out).mono ?_
    rintro e w1 ⟨⟨o1, n1, c1, rfl, hv1, -⟩, hb1⟩
    obtain ⟨rfl, -⟩ := hv1.open3
    have HB1 := hide hb1
    clear hb1 hv1
    go_wp2_with fail
    refine (leadBegun_any _).mono ?_
    rintro e w2 ⟨rfl, hb2⟩
    have HB2 := hide (HB1.out.trans (hb2.mono HB1.out.size))
    clear hb2
    go_wp2_with fail
    go_ret
    exact ⟨rfl, HB2.out⟩
  · rw [hr, h1] at HS
    have hc := setL_right (up := false) h1
    have hu := winB_down (setL_up (up := false) h1)
    have hlen := right_len hc
    have hdn := fun hb => down_two (b := b) h1 hb
    have hW1 := fun W o c (h : VwsAt W o (setL L a false)) => win_any o c (setL L a false) a W h (by omega)
    simp only [hu] at hW1
    have HW1 := hide hW1
    have hS2 := fun W o c (h : VwsAt W o (setL L a false)) => set_any o c (setL L a false) b false W h (by omega)
    have hset := fun h => setL_right (L := setL L a false) (a := b) (up := false) h
    have hsw := setR_ways (setL L a false) b false
    have hab : (a == b) = true ∨ (a == b) = false ∧ a ≠ b := by
      by_cases h : a = b
      · left; simpa using h
      · right; exact ⟨by simpa using h, h⟩
    clear hr h1 hu hlen hc hW1
    generalize setL L a false = X at *
    generalize winE X a = F at *
    generalize winR X a = WR at *
    have hF : (F == 0) = true ∨ (F == 0) = false := by cases (F == 0) <;> simp
    have HF := hide hF
    have HAB := hide hab
    have HSW := hide hsw
    have HS2 := hide hS2
    have HDN := hide hdn
    have HSET := hide hset
    clear hF hab hsw hS2 hdn hset
    go_enter Try.func7, Try.ntmps7
    go_wp2_with fail
    refine (HS.out _ HL.out).mono ?_
    rintro e w1 ⟨⟨o1, n1, c1, rfl, hv1, -⟩, hb1⟩
    obtain ⟨rfl, hv1, -⟩ := hv1.open3
    have HB1 := hide hb1
    have HX1 := hide hv1
    clear hb1 hv1
    go_wp2_with fail
    refine (leadBegun_any _).mono ?_
    rintro e w2 ⟨rfl, hb2⟩
    have HX2 := hide (HX1.out.below hb2)
    have HB2 := hide (HB1.out.trans (hb2.mono HB1.out.size))
    clear hb2 HX1 HB1
    go_wp2_with fail
    refine (HW1.out _ o1 c1 HX2.out).mono ?_
    rintro e w3 ⟨⟨o3, n3, c3, rfl, -, -⟩, hb3⟩
    have HX3 := hide (HX2.out.below hb3)
    have HB3 := hide (HB2.out.trans (hb3.mono HB2.out.size))
    clear hb3 HX2 HB2
    rcases HF.out with hF | hF
    all_goals
      go_wp2_with fail
      refine (HS2.out _ o1 c1 HX3.out).mono ?_
      rintro e w4 ⟨⟨o4, n4, c4, rfl, hv4, -⟩, hb4⟩
      have HB4 := hide (HB3.out.trans (hb4.mono HB3.out.size))
      clear hb4 HB3 HX3 hF
      rcases HSW.out with ⟨h2, hr2⟩ | ⟨h2, hr2⟩
      · have h2' : (unfW X b 2 != 0) = true := by simpa using h2
        clear hv4 h2 hr2
        generalize unfW X b 2 = E2 at *
        go_wp2_with fail
        go_ret
        exact ⟨rfl, HB4.out⟩
      · rw [hr2] at hv4
        obtain ⟨rfl, hv4, -⟩ := hv4.open3
        have HX4 := hide hv4
        have H2 := hide h2
        rw [h2]
        clear hv4 hr2 h2
        rcases HAB.out with hab | ⟨hab, hne⟩
        · go_wp2_with fail
          go_ret
          exact ⟨rfl, HB4.out⟩
        · have hm := HDN.out H2.out hne
          have hc := HSET.out H2.out
          have hl := right_len hc
          have hN := fun W o c (h : VwsAt W o (setL X b false)) => now_any o c (setL X b false) W h (by omega)
          rw [nowB_down hm, hc] at hN
          have HN := hide hN
          have hW := fun W o c (h : VwsAt W o (setL X b false)) => win_any o c (setL X b false) who W h (by omega)
          obtain ⟨hw1, hw2⟩ := win_down (who := who) hm
          rw [hw1] at hW
          have HW := hide hW
          have HW2 := hide hw2
          have HLN := hide hl
          clear hm hc hl hN hW hw1 hw2 hne
          generalize setL X b false = Y at *
          go_wp2_with fail
          refine (HN.out _ o4 c4 HX4.out).mono ?_
          rintro e w5 ⟨rfl, hb5⟩
          have HX5 := hide (HX4.out.below hb5)
          have HB5 := hide (HB4.out.trans (hb5.mono HB4.out.size))
          clear hb5 HB4 HX4
          go_wp2_with fail
          refine (HW.out _ o4 c4 HX5.out).mono ?_
          rintro e w6 ⟨⟨o6, n6, c6, rfl, hv6, -⟩, hb6⟩
          have HX6 := hide (HX5.out.below hb6)
          have HB6 := hide (HB5.out.trans (hb6.mono HB5.out.size))
          clear hb6 HB5 HX5
          by_cases hG : winE Y who = 0
          · rw [HW2.out hG] at hv6
            obtain ⟨rfl, hv6, -⟩ := hv6.open3
            have HV6 := hide hv6
            rw [hG]
            clear hv6 hG
            go_wp2_with fail
            refine (sameViews_same Y o6 o4 c6 c4 _ HV6.out HX6.out (by have := HLN.out; omega)).mono ?_
            rintro e w7 ⟨rfl, hb7⟩
            have HB7 := hide (HB6.out.trans (hb7.mono HB6.out.size))
            clear hb7
            go_wp2_with fail
            go_ret
            exact ⟨rfl, HB7.out⟩
          · have hG' : (winE Y who != 0) = true := by simpa using hG
            clear hv6 hG HW2 HW
            generalize winE Y who = G at *
            go_wp2_with fail
            go_ret
            exact ⟨rfl, HB6.out⟩
end Go.Proofs.Ytcakfmpckbmdeae
