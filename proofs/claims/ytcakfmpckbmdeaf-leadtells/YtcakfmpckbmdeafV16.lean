/-
  The walk of LeadTells.
-/
import Derived.Test.YtcakfmpckbmdeafV10
import Derived.Test.YtcakfmpckbmdeafV12
namespace Go.Proofs.Ytcakfmpckbmdeaf
open Go.RowKit

theorem viewsAre_any (E : Int) (R : List VW) (o o' : Option Addr) (c c' : Nat) (w : World) (hL : VwsAt w o R) (hM : VwsAt w o' R) (hE : E ≠ 0 → R = []) (hlen : R.length ≤ 100) :
    Calls Try.prog 14 #[.slice o R.length c, .int .i64 E, .int .i64 E, .slice o' R.length c'] w fun e w' => e = .returned (.bool true) ∧ Below w.heap.size w w' := by
  by_cases h : E = 0
  · subst h
    exact viewsAre_ok R o o' c c' w hL hM hlen
  · have hR := hE h
    subst hR
    have h1 : (E != 0) = true := by simpa using h
    have HC := hide (fun W => sameViews_same [] o none c 0 W (fun i p h => by simp at h) (fun i p h => by simp at h) (by simp))
    clear hL hM hE h
    go_enter Try.func14, Try.ntmps14
    go_wp2_with fail
    refine (HC.out _).mono ?_
    rintro e w1 ⟨rfl, hb⟩
    have HB := hide hb
    clear hb
    go_wp2_with fail
    go_ret
    exact ⟨rfl, HB.out⟩

theorem winR_nil {L : List VW} {who : Int} (h : winE L who ≠ 0) : winR L who = [] := by rw [winR, if_neg h]
theorem setR_nil {L : List VW} {who : Int} {up : Bool} (h : unfW L who 2 ≠ 0) : setR L who up = [] := by rw [setR, if_neg h]
theorem winR_len {L : List VW} {who : Int} (h : L.length = 3) : (winR L who).length ≤ 100 := by
  rw [winR, winL]
  split
  · split
    · rw [promW_len]; omega
    · omega
  · simp
theorem setR_len {L : List VW} {who : Int} {up : Bool} (h : L.length = 3) : (setR L who up).length ≤ 100 := by
  rw [setR]
  split
  · rw [setL_len]; omega
  · simp

set_option maxHeartbeats 3200000 in
theorem leadTells_walk (o : Option Addr) (L : List VW) (cap : Nat) (who : Int) (up : Bool) (w : World) (hL : VwsOk w o L cap) :
    Calls Try.prog 3 #[.slice o L.length cap, .int .i64 who, .bool up] w fun e w' => e = .returned (.bool true) ∧ Below w.heap.size w w' := by
  obtain ⟨hL, hlen, hcap, hnone⟩ := hL
  have HN := hide (fun W (h : VwsAt W o L) => now_any o cap L W h hlen)
  have HW := hide (fun W (h : VwsAt W o L) => win_any o cap L who W h hlen)
  have HS := hide (fun W (h : VwsAt W o L) => set_any o cap L who up W h hlen)
  have HC := hide (fun W (h : VwsAt W o L) => checkViews_any o cap L W h hlen)
  have HK := hide (fun W (h : VwsAt W o L) => leadCheck_any o cap L W h hlen)
  have HL := hide hL
  have HW1 := hide (fun h => winR_nil (L := L) (who := who) h)
  have HS1 := hide (fun h => setR_nil (L := L) (who := who) (up := up) h)
  clear hL
  by_cases h0 : chkVs L = 0
  · have HO := hide (fun W (h : VwsAt W o L) => whoOf_any o cap L W h h0)
    have HI := hide (fun W (h : VwsAt W o L) => winOf_any o cap L who W h hcap hnone h0)
    have HE := hide (fun W (h : VwsAt W o L) => setOf_any o cap L who up W h h0)
    have HW2 := hide (winR_len (who := who) (right_len h0))
    have HS2 := hide (setR_len (who := who) (up := up) (right_len h0))
    have e1 : nowB L = leadsW L := by simp [nowB, h0]
    have e2 : nowI L = whoW L := by rw [nowI, whoW, e1]
    rw [e1, e2, h0] at HN
    rw [h0] at HC HK
    clear e1 e2 h0 hcap hnone
    generalize whoW L = n1 at *
    generalize leadsW L = b1 at *
    generalize winR L who = R1 at *
    generalize winE L who = E1 at *
    generalize winB L who = b2 at *
    generalize setR L who up = R2 at *
    generalize unfW L who 2 = E2 at *
    go_enter Try.func3, Try.ntmps3
    go_wp2_with fail
    refine (HN.out _ HL.out).mono ?_
    rintro e w1 ⟨rfl, hb1⟩
    have HL1 := hide (HL.out.below hb1)
    have HB1 := hide hb1
    clear hb1
    go_wp2_with fail
    refine (HW.out _ HL1.out).mono ?_
    rintro e w2 ⟨⟨oa, na, ca, rfl, ha, -⟩, hb2⟩
    obtain ⟨rfl, ha, -⟩ := ha.open3
    have HA2 := hide ha
    have HL2 := hide (HL1.out.below hb2)
    have HB2 := hide (HB1.out.trans (hb2.mono HB1.out.size))
    clear hb2 HB1 HL1 ha
    go_wp2_with fail
    refine (HS.out _ HL2.out).mono ?_
    rintro e w3 ⟨⟨ob, nb, cb, rfl, hb, -⟩, hb3⟩
    obtain ⟨rfl, hb, -⟩ := hb.open3
    have HS3 := hide hb
    have HA3 := hide (HA2.out.below hb3)
    have HL3 := hide (HL2.out.below hb3)
    have HB3 := hide (HB2.out.trans (hb3.mono HB2.out.size))
    clear hb3 HB2 HL2 HA2 hb
    go_wp2_with fail
    refine (HC.out _ HL3.out).mono ?_
    rintro e w4 ⟨rfl, hb4⟩
    have HS4 := hide (HS3.out.below hb4)
    have HA4 := hide (HA3.out.below hb4)
    have HL4 := hide (HL3.out.below hb4)
    have HB4 := hide (HB3.out.trans (hb4.mono HB3.out.size))
    clear hb4 HB3 HL3 HA3 HS3
    go_wp2_with fail
    refine (HO.out _ HL4.out).mono ?_
    rintro e w5 ⟨rfl, hb5⟩
    have HS5 := hide (HS4.out.below hb5)
    have HA5 := hide (HA4.out.below hb5)
    have HL5 := hide (HL4.out.below hb5)
    have HB5 := hide (HB4.out.trans (hb5.mono HB4.out.size))
    clear hb5 HB4 HL4 HA4 HS4
    go_wp2_with fail
    refine (HI.out _ HL5.out).mono ?_
    rintro e w6 ⟨⟨oc, nc, cc, rfl, hc⟩, hb6⟩
    obtain ⟨rfl, hc, -⟩ := hc.open3
    have HI6 := hide hc
    have HS6 := hide (HS5.out.below hb6)
    have HA6 := hide (HA5.out.below hb6)
    have HL6 := hide (HL5.out.below hb6)
    have HB6 := hide (HB5.out.trans (hb6.mono HB5.out.size))
    clear hb6 HB5 HL5 HA5 HS5 hc
    go_wp2_with fail
    refine (HE.out _ HL6.out).mono ?_
    rintro e w7 ⟨⟨od, nd, cd, rfl, hd, -⟩, hb7⟩
    obtain ⟨rfl, hd, -⟩ := hd.open3
    have HE7 := hide hd
    have HI7 := hide (HI6.out.below hb7)
    have HS7 := hide (HS6.out.below hb7)
    have HA7 := hide (HA6.out.below hb7)
    have HL7 := hide (HL6.out.below hb7)
    have HB7 := hide (HB6.out.trans (hb7.mono HB6.out.size))
    clear hb7 HB6 HL6 HA6 HS6 HI6 hd
    go_wp2_with fail
    refine (leadBegun_any _).mono ?_
    rintro e w8 ⟨rfl, hb8⟩
    have HE8 := hide (HE7.out.below hb8)
    have HI8 := hide (HI7.out.below hb8)
    have HS8 := hide (HS7.out.below hb8)
    have HA8 := hide (HA7.out.below hb8)
    have HL8 := hide (HL7.out.below hb8)
    have HB8 := hide (HB7.out.trans (hb8.mono HB7.out.size))
    clear hb8 HB7 HL7 HA7 HS7 HI7 HE7
    go_wp2_with fail
    refine (HK.out _ HL8.out).mono ?_
    rintro e w9 ⟨rfl, hb9⟩
    have HE9 := hide (HE8.out.below hb9)
    have HI9 := hide (HI8.out.below hb9)
    have HS9 := hide (HS8.out.below hb9)
    have HA9 := hide (HA8.out.below hb9)
    have HB9 := hide (HB8.out.trans (hb9.mono HB8.out.size))
    clear hb9 HB8 HL8 HA8 HS8 HI8 HE8
    go_wp2_with fail
    refine (viewsAre_any E1 R1 oa oc ca cc _ HA9.out HI9.out HW1.out HW2.out).mono ?_
    rintro e wx ⟨rfl, hbx⟩
    have HEx := hide (HE9.out.below hbx)
    have HSx := hide (HS9.out.below hbx)
    have HBx := hide (HB9.out.trans (hbx.mono HB9.out.size))
    clear hbx HB9 HA9 HI9 HS9 HE9
    go_wp2_with fail
    refine (viewsAre_any E2 R2 ob od cb cd _ HSx.out HEx.out HS1.out HS2.out).mono ?_
    rintro e wy ⟨rfl, hby⟩
    have HBy := hide (HBx.out.trans (hby.mono HBx.out.size))
    clear hby HBx HSx HEx
    go_wp2_with fail
    go_ret
    exact ⟨rfl, HBy.out⟩
  · have e1 : nowB L = false := by simp [nowB, h0]
    have e2 : nowI L = 0 := by rw [nowI, e1]; rfl
    have e3 : unfW L who 1 = chkVs L := by rw [unfW, if_neg h0]
    have e4 : unfW L who 2 = chkVs L := by rw [unfW, if_neg h0]
    have e5 : winE L who = chkVs L := by rw [winE, e3, if_neg h0]
    have e6 : winB L who = false := by rw [winB, e5]; simp [h0]
    have e7 := HW1.out (by rw [e5]; exact h0)
    have e8 := HS1.out (by rw [e4]; exact h0)
    rw [e1, e2] at HN
    rw [e5, e6, e7] at HW
    rw [e4, e8] at HS
    have h0' : (chkVs L == 0) = false := by simpa using h0
    have H0 := hide h0
    clear e1 e2 e3 e4 e5 e6 e7 e8 HW1 HS1 h0
    generalize chkVs L = E at *
    go_enter Try.func3, Try.ntmps3
    go_wp2_with fail
    refine (HN.out _ HL.out).mono ?_
    rintro e w1 ⟨rfl, hb1⟩
    have HL1 := hide (HL.out.below hb1)
    have HB1 := hide hb1
    clear hb1
    go_wp2_with fail
    refine (HW.out _ HL1.out).mono ?_
    rintro e w2 ⟨⟨oa, na, ca, rfl, ha, -⟩, hb2⟩
    obtain ⟨rfl, -⟩ := ha.open3
    have HL2 := hide (HL1.out.below hb2)
    have HB2 := hide (HB1.out.trans (hb2.mono HB1.out.size))
    clear hb2 HB1 HL1 ha
    go_wp2_with fail
    refine (HS.out _ HL2.out).mono ?_
    rintro e w3 ⟨⟨ob, nb, cb, rfl, hb, -⟩, hb3⟩
    obtain ⟨rfl, -⟩ := hb.open3
    have HL3 := hide (HL2.out.below hb3)
    have HB3 := hide (HB2.out.trans (hb3.mono HB2.out.size))
    clear hb3 HB2 HL2 hb
    go_wp2_with fail
    refine (HC.out _ HL3.out).mono ?_
    rintro e w4 ⟨rfl, hb4⟩
    have HL4 := hide (HL3.out.below hb4)
    have HB4 := hide (HB3.out.trans (hb4.mono HB3.out.size))
    clear hb4 HB3 HL3
    go_wp2_with fail
    refine (leadBegun_any _).mono ?_
    rintro e w8 ⟨rfl, hb8⟩
    have HL8 := hide (HL4.out.below hb8)
    have HB8 := hide (HB4.out.trans (hb8.mono HB4.out.size))
    clear hb8 HB4 HL4
    go_wp2_with fail
    refine (HK.out _ HL8.out).mono ?_
    rintro e w9 ⟨rfl, hb9⟩
    have HB9 := hide (HB8.out.trans (hb9.mono HB8.out.size))
    clear hb9 HB8 HL8
    go_wp2_with fail
    refine (viewsAre_any E [] oa none ca 0 _ (fun i p h => by simp at h) (fun i p h => by simp at h) (fun _ => rfl) (by simp)).mono ?_
    rintro e wx ⟨rfl, hbx⟩
    have HBx := hide (HB9.out.trans (hbx.mono HB9.out.size))
    clear hbx HB9
    go_wp2_with fail
    refine (viewsAre_any E [] ob none cb 0 _ (fun i p h => by simp at h) (fun i p h => by simp at h) (fun _ => rfl) (by simp)).mono ?_
    rintro e wy ⟨rfl, hby⟩
    have HBy := hide (HBx.out.trans (hby.mono HBx.out.size))
    clear hby HBx
    go_wp2_with fail
    go_ret
    exact ⟨rfl, HBy.out⟩
end Go.Proofs.Ytcakfmpckbmdeaf
