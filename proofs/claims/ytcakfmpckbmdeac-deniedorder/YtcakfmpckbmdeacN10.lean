/-
  The walks of DeniedStays and DeniedOrder.
-/
import Derived.Test.YtcakfmpckbmdeacN9
import Derived.Test.YtcakfmpckbmdeacO3
namespace Go.Proofs.Ytcakfmpckbmdeac
open Go.RowKit

theorem pick_or (a b : Bool) : (a == (b || a)) = (!b || a) := by cases a <;> cases b <;> rfl

set_option maxHeartbeats 6400000 in
theorem deniedStays_walk (v : Int) (o : Option Addr) (L : List Int) (cap : Nat) (id other : Int) (w : World) (hL0 : IntsOk w o L cap) :
    Calls Try.prog 6 #[dn v o L.length cap, .int .i64 id, .int .i64 other] w fun e w' => e = .returned (.bool true) ∧ Below w.heap.size w w' := by
  obtain ⟨hL, hlen, hcap, hnone⟩ := hL0
  have HL := hide hL
  have HA := hide (fun W (h : IntsAt W o L) => add_any v id L o cap W h hlen hcap hnone)
  clear hL hcap hnone
  by_cases hE : addE v L id = 0
  · rw [hE, if_pos rfl, if_pos rfl] at HA
    have hc := chkD_addI hE
    have hr := addE_right hE
    have HN1 := hide (fun W oa ca (h1 : IntsAt W o L) (h2 : IntsAt W oa (addI L id)) => newer_any v (v + 1) L (addI L id) o oa cap ca W h1 h2 hlen (by rw [addI_len]; omega))
    rw [show newE v L (v + 1) (addI L id) = 0 by rw [newE, if_pos hr.1]; exact hc, if_pos rfl, if_pos rfl, if_pos (by omega), if_pos (by omega)] at HN1
    have HN2 := hide (fun W oa ca (h1 : IntsAt W oa (addI L id)) (h2 : IntsAt W o L) => newer_any (v + 1) v (addI L id) L oa o ca cap W h1 h2 (by rw [addI_len]; omega) hlen)
    rw [show newE (v + 1) (addI L id) v L = 0 by rw [newE, if_pos hc]; exact hr.1, if_pos rfl, if_pos rfl, if_neg (by omega), if_neg (by omega)] at HN2
    have HH1 := hide (fun W (h1 : IntsAt W o L) => has_any v other L o cap W h1 hlen)
    rw [unfD_of hr.1] at HH1
    have HH2 := hide (fun W oa ca (h1 : IntsAt W oa (addI L id)) => has_any (v + 1) other (addI L id) oa ca W h1 (by rw [addI_len]; omega))
    rw [unfD_of hc, hasI_addI] at HH2
    have HS := hide (fun W oa ob ca cb (h : IntsAt W oa (addI L id)) (h' : IntsAt W ob (addI L id)) => sameDenied_same (v + 1) (addI L id) oa ob ca cb W h h' (by rw [addI_len]; omega))
    have HC := hide (fun W oa ca (h : IntsAt W oa (addI L id)) => denCheck_any (v + 1) (addI L id) oa ca W h (by rw [addI_len]; omega))
    rw [hc] at HC
    generalize addI L id = M at *
    clear hE hc hr
    cases hw : wi other 1 9999
    all_goals
      first | rw [hw, if_neg (by decide), decide_eq_false (by decide), Bool.false_and] at HH1 HH2 | rw [hw, if_pos rfl, decide_eq_true rfl, Bool.true_and] at HH1 HH2
      clear hw
      generalize hasI L other = was at *
      generalize hq : (other == id) = q at *
      go_enter Try.func6, Try.ntmps6
      go_wp2_with fail
      have HG1 := hide ((Blks.nil w).more (.cells #[.int .i64 v, .slice o L.length cap] 45) (by simp))
      refine (HA.out _ (HL.out.below HG1.out.2.2)).mono ?_
      rintro e w1 ⟨⟨u, rfl, ⟨-, rfl, oa, ca, rfl, hI, hca, hna⟩⟩, hb⟩
      have HG1w1 := hide (HG1.out.on hb)
      have HIa := hide hI
      clear hI hca hna
      clear hb HG1
      go_wp2_with fail
      have HG2 := hide ((Blks.nil w1).more (.cells #[.int .i64 (v + 1), .slice oa M.length ca] 45) (by simp))
      refine (deniedBegun_any _).mono ?_
      rintro e w2 ⟨rfl, hb⟩
      have HG2w2 := hide (HG2.out.on hb)
      have HG1w2 := hide (HG1w1.out.on HG2w2.out.2.2)
      clear hb HG1w1 HG2
      have lG1_0 := HG1w2.out.lt 0 w.heap.size (by simp) rfl
      have cG1_0_0 := HG1w2.out.cell 0 0 w.heap.size _ _ _ rfl rfl rfl
      have cG1_0_1 := HG1w2.out.cell 0 1 w.heap.size _ _ _ rfl rfl rfl
      have lG2_0 := HG2w2.out.lt 0 w1.heap.size (by simp) rfl
      have cG2_0_0 := HG2w2.out.cell 0 0 w1.heap.size _ _ _ rfl rfl rfl
      have cG2_0_1 := HG2w2.out.cell 0 1 w1.heap.size _ _ _ rfl rfl rfl
      go_wp2_with fail
      refine (HN1.out _ oa ca (HL.out.below HG1w2.out.2.2) (HIa.out.below HG2w2.out.2.2)).mono ?_
      rintro e w3 ⟨⟨u, rfl, ⟨-, rfl, on, cn, rfl, hI, -, -⟩⟩, hb⟩
      have HG1w3 := hide (HG1w2.out.on hb)
      have HG2w3 := hide (HG2w2.out.on hb)
      have HIn := hide hI
      clear hI
      clear lG1_0 cG1_0_0 cG1_0_1 lG2_0 cG2_0_0 cG2_0_1
      clear hb HG1w2 HG2w2
      have lG1_0 := HG1w3.out.lt 0 w.heap.size (by simp) rfl
      have cG1_0_0 := HG1w3.out.cell 0 0 w.heap.size _ _ _ rfl rfl rfl
      have cG1_0_1 := HG1w3.out.cell 0 1 w.heap.size _ _ _ rfl rfl rfl
      have lG2_0 := HG2w3.out.lt 0 w1.heap.size (by simp) rfl
      have cG2_0_0 := HG2w3.out.cell 0 0 w1.heap.size _ _ _ rfl rfl rfl
      have cG2_0_1 := HG2w3.out.cell 0 1 w1.heap.size _ _ _ rfl rfl rfl
      go_wp2_with fail
      have HG3 := hide ((Blks.nil w3).more (.cells #[.int .i64 (v + 1), .slice on M.length cn] 45) (by simp))
      refine (HN2.out _ oa ca (HIa.out.below (HG2w3.out.on HG3.out.2.2).2.2) (HL.out.below (HG1w3.out.on HG3.out.2.2).2.2)).mono ?_
      rintro e w4 ⟨⟨u, rfl, ⟨-, rfl, om, cm, rfl, hI, -, -⟩⟩, hb⟩
      have HG3w4 := hide (HG3.out.on hb)
      have HG1w4 := hide (HG1w3.out.on HG3w4.out.2.2)
      have HG2w4 := hide (HG2w3.out.on HG3w4.out.2.2)
      have HIm := hide hI
      clear hI
      clear lG1_0 cG1_0_0 cG1_0_1 lG2_0 cG2_0_0 cG2_0_1
      clear hb HG1w3 HG2w3 HG3
      have lG1_0 := HG1w4.out.lt 0 w.heap.size (by simp) rfl
      have cG1_0_0 := HG1w4.out.cell 0 0 w.heap.size _ _ _ rfl rfl rfl
      have cG1_0_1 := HG1w4.out.cell 0 1 w.heap.size _ _ _ rfl rfl rfl
      have lG2_0 := HG2w4.out.lt 0 w1.heap.size (by simp) rfl
      have cG2_0_0 := HG2w4.out.cell 0 0 w1.heap.size _ _ _ rfl rfl rfl
      have cG2_0_1 := HG2w4.out.cell 0 1 w1.heap.size _ _ _ rfl rfl rfl
      have lG3_0 := HG3w4.out.lt 0 w3.heap.size (by simp) rfl
      have cG3_0_0 := HG3w4.out.cell 0 0 w3.heap.size _ _ _ rfl rfl rfl
      have cG3_0_1 := HG3w4.out.cell 0 1 w3.heap.size _ _ _ rfl rfl rfl
      go_wp2_with fail
      have HG4 := hide ((Blks.nil w4).more (.cells #[.int .i64 (v + 1), .slice om M.length cm] 45) (by simp))
      refine (HH1.out _ (HL.out.below (HG1w4.out.on HG4.out.2.2).2.2)).mono ?_
      rintro e w5 ⟨rfl, hb⟩
      have HG4w5 := hide (HG4.out.on hb)
      have HG1w5 := hide (HG1w4.out.on HG4w5.out.2.2)
      have HG2w5 := hide (HG2w4.out.on HG4w5.out.2.2)
      have HG3w5 := hide (HG3w4.out.on HG4w5.out.2.2)
      clear lG1_0 cG1_0_0 cG1_0_1 lG2_0 cG2_0_0 cG2_0_1 lG3_0 cG3_0_0 cG3_0_1
      clear hb HG1w4 HG2w4 HG3w4 HG4
      have lG1_0 := HG1w5.out.lt 0 w.heap.size (by simp) rfl
      have cG1_0_0 := HG1w5.out.cell 0 0 w.heap.size _ _ _ rfl rfl rfl
      have cG1_0_1 := HG1w5.out.cell 0 1 w.heap.size _ _ _ rfl rfl rfl
      have lG2_0 := HG2w5.out.lt 0 w1.heap.size (by simp) rfl
      have cG2_0_0 := HG2w5.out.cell 0 0 w1.heap.size _ _ _ rfl rfl rfl
      have cG2_0_1 := HG2w5.out.cell 0 1 w1.heap.size _ _ _ rfl rfl rfl
      have lG3_0 := HG3w5.out.lt 0 w3.heap.size (by simp) rfl
      have cG3_0_0 := HG3w5.out.cell 0 0 w3.heap.size _ _ _ rfl rfl rfl
      have cG3_0_1 := HG3w5.out.cell 0 1 w3.heap.size _ _ _ rfl rfl rfl
      have lG4_0 := HG4w5.out.lt 0 w4.heap.size (by simp) rfl
      have cG4_0_0 := HG4w5.out.cell 0 0 w4.heap.size _ _ _ rfl rfl rfl
      have cG4_0_1 := HG4w5.out.cell 0 1 w4.heap.size _ _ _ rfl rfl rfl
      go_wp2_with fail
      refine (HH2.out _ oa ca (HIa.out.below HG2w5.out.2.2)).mono ?_
      rintro e w6 ⟨rfl, hb⟩
      have HG1w6 := hide (HG1w5.out.on hb)
      have HG2w6 := hide (HG2w5.out.on hb)
      have HG3w6 := hide (HG3w5.out.on hb)
      have HG4w6 := hide (HG4w5.out.on hb)
      clear lG1_0 cG1_0_0 cG1_0_1 lG2_0 cG2_0_0 cG2_0_1 lG3_0 cG3_0_0 cG3_0_1 lG4_0 cG4_0_0 cG4_0_1
      clear hb HG1w5 HG2w5 HG3w5 HG4w5
      have lG1_0 := HG1w6.out.lt 0 w.heap.size (by simp) rfl
      have cG1_0_0 := HG1w6.out.cell 0 0 w.heap.size _ _ _ rfl rfl rfl
      have cG1_0_1 := HG1w6.out.cell 0 1 w.heap.size _ _ _ rfl rfl rfl
      have lG2_0 := HG2w6.out.lt 0 w1.heap.size (by simp) rfl
      have cG2_0_0 := HG2w6.out.cell 0 0 w1.heap.size _ _ _ rfl rfl rfl
      have cG2_0_1 := HG2w6.out.cell 0 1 w1.heap.size _ _ _ rfl rfl rfl
      have lG3_0 := HG3w6.out.lt 0 w3.heap.size (by simp) rfl
      have cG3_0_0 := HG3w6.out.cell 0 0 w3.heap.size _ _ _ rfl rfl rfl
      have cG3_0_1 := HG3w6.out.cell 0 1 w3.heap.size _ _ _ rfl rfl rfl
      have lG4_0 := HG4w6.out.lt 0 w4.heap.size (by simp) rfl
      have cG4_0_0 := HG4w6.out.cell 0 0 w4.heap.size _ _ _ rfl rfl rfl
      have cG4_0_1 := HG4w6.out.cell 0 1 w4.heap.size _ _ _ rfl rfl rfl
      go_wp2_with fail
      refine (HS.out _ on oa cn ca (HIn.out.below HG3w6.out.2.2) (HIa.out.below HG2w6.out.2.2)).mono ?_
      rintro e w7 ⟨rfl, hb⟩
      have HG1w7 := hide (HG1w6.out.on hb)
      have HG2w7 := hide (HG2w6.out.on hb)
      have HG3w7 := hide (HG3w6.out.on hb)
      have HG4w7 := hide (HG4w6.out.on hb)
      clear lG1_0 cG1_0_0 cG1_0_1 lG2_0 cG2_0_0 cG2_0_1 lG3_0 cG3_0_0 cG3_0_1 lG4_0 cG4_0_0 cG4_0_1
      clear hb HG1w6 HG2w6 HG3w6 HG4w6
      have lG1_0 := HG1w7.out.lt 0 w.heap.size (by simp) rfl
      have cG1_0_0 := HG1w7.out.cell 0 0 w.heap.size _ _ _ rfl rfl rfl
      have cG1_0_1 := HG1w7.out.cell 0 1 w.heap.size _ _ _ rfl rfl rfl
      have lG2_0 := HG2w7.out.lt 0 w1.heap.size (by simp) rfl
      have cG2_0_0 := HG2w7.out.cell 0 0 w1.heap.size _ _ _ rfl rfl rfl
      have cG2_0_1 := HG2w7.out.cell 0 1 w1.heap.size _ _ _ rfl rfl rfl
      have lG3_0 := HG3w7.out.lt 0 w3.heap.size (by simp) rfl
      have cG3_0_0 := HG3w7.out.cell 0 0 w3.heap.size _ _ _ rfl rfl rfl
      have cG3_0_1 := HG3w7.out.cell 0 1 w3.heap.size _ _ _ rfl rfl rfl
      have lG4_0 := HG4w7.out.lt 0 w4.heap.size (by simp) rfl
      have cG4_0_0 := HG4w7.out.cell 0 0 w4.heap.size _ _ _ rfl rfl rfl
      have cG4_0_1 := HG4w7.out.cell 0 1 w4.heap.size _ _ _ rfl rfl rfl
      go_wp2_with fail
      refine (HS.out _ om oa cm ca (HIm.out.below HG4w7.out.2.2) (HIa.out.below HG2w7.out.2.2)).mono ?_
      rintro e w8 ⟨rfl, hb⟩
      have HG1w8 := hide (HG1w7.out.on hb)
      have HG2w8 := hide (HG2w7.out.on hb)
      have HG3w8 := hide (HG3w7.out.on hb)
      have HG4w8 := hide (HG4w7.out.on hb)
      clear lG1_0 cG1_0_0 cG1_0_1 lG2_0 cG2_0_0 cG2_0_1 lG3_0 cG3_0_0 cG3_0_1 lG4_0 cG4_0_0 cG4_0_1
      clear hb HG1w7 HG2w7 HG3w7 HG4w7
      have lG1_0 := HG1w8.out.lt 0 w.heap.size (by simp) rfl
      have cG1_0_0 := HG1w8.out.cell 0 0 w.heap.size _ _ _ rfl rfl rfl
      have cG1_0_1 := HG1w8.out.cell 0 1 w.heap.size _ _ _ rfl rfl rfl
      have lG2_0 := HG2w8.out.lt 0 w1.heap.size (by simp) rfl
      have cG2_0_0 := HG2w8.out.cell 0 0 w1.heap.size _ _ _ rfl rfl rfl
      have cG2_0_1 := HG2w8.out.cell 0 1 w1.heap.size _ _ _ rfl rfl rfl
      have lG3_0 := HG3w8.out.lt 0 w3.heap.size (by simp) rfl
      have cG3_0_0 := HG3w8.out.cell 0 0 w3.heap.size _ _ _ rfl rfl rfl
      have cG3_0_1 := HG3w8.out.cell 0 1 w3.heap.size _ _ _ rfl rfl rfl
      have lG4_0 := HG4w8.out.lt 0 w4.heap.size (by simp) rfl
      have cG4_0_0 := HG4w8.out.cell 0 0 w4.heap.size _ _ _ rfl rfl rfl
      have cG4_0_1 := HG4w8.out.cell 0 1 w4.heap.size _ _ _ rfl rfl rfl
      go_wp2_with fail
      refine (HC.out _ oa ca (HIa.out.below HG2w8.out.2.2)).mono ?_
      rintro e w9 ⟨rfl, hb⟩
      have HG1w9 := hide (HG1w8.out.on hb)
      have HG2w9 := hide (HG2w8.out.on hb)
      have HG3w9 := hide (HG3w8.out.on hb)
      have HG4w9 := hide (HG4w8.out.on hb)
      clear lG1_0 cG1_0_0 cG1_0_1 lG2_0 cG2_0_0 cG2_0_1 lG3_0 cG3_0_0 cG3_0_1 lG4_0 cG4_0_0 cG4_0_1
      clear hb HG1w8 HG2w8 HG3w8 HG4w8
      have lG1_0 := HG1w9.out.lt 0 w.heap.size (by simp) rfl
      have cG1_0_0 := HG1w9.out.cell 0 0 w.heap.size _ _ _ rfl rfl rfl
      have cG1_0_1 := HG1w9.out.cell 0 1 w.heap.size _ _ _ rfl rfl rfl
      have lG2_0 := HG2w9.out.lt 0 w1.heap.size (by simp) rfl
      have cG2_0_0 := HG2w9.out.cell 0 0 w1.heap.size _ _ _ rfl rfl rfl
      have cG2_0_1 := HG2w9.out.cell 0 1 w1.heap.size _ _ _ rfl rfl rfl
      have lG3_0 := HG3w9.out.lt 0 w3.heap.size (by simp) rfl
      have cG3_0_0 := HG3w9.out.cell 0 0 w3.heap.size _ _ _ rfl rfl rfl
      have cG3_0_1 := HG3w9.out.cell 0 1 w3.heap.size _ _ _ rfl rfl rfl
      have lG4_0 := HG4w9.out.lt 0 w4.heap.size (by simp) rfl
      have cG4_0_0 := HG4w9.out.cell 0 0 w4.heap.size _ _ _ rfl rfl rfl
      have cG4_0_1 := HG4w9.out.cell 0 1 w4.heap.size _ _ _ rfl rfl rfl
      go_wp2_with fail
      all_goals go_ret
      all_goals exact ⟨by first | rfl | (cases was <;> cases q <;> rfl) | (simp; done), HG1w9.out.2.2⟩
  · rw [if_neg hE, if_neg hE] at HA
    have hE' : (addE v L id != 0) = true := by simpa using hE
    generalize addE v L id = E at *
    clear hE
    go_enter Try.func6, Try.ntmps6
    go_wp2_with fail
    have HG1 := hide ((Blks.nil w).more (.cells #[.int .i64 v, .slice o L.length cap] 45) (by simp))
    refine (HA.out _ (HL.out.below HG1.out.2.2)).mono ?_
    rintro e w1 ⟨⟨u, rfl, ⟨-, rfl, oa, ca, rfl, hI, hca, hna⟩⟩, hb⟩
    have HG1w1 := hide (HG1.out.on hb)
    clear hI hca hna
    clear hb HG1
    go_wp2_with fail
    have HG2 := hide ((Blks.nil w1).more (.cells #[.int .i64 0, .slice oa 0 ca] 45) (by simp))
    refine (deniedBegun_any _).mono ?_
    rintro e w2 ⟨rfl, hb⟩
    have HG2w2 := hide (HG2.out.on hb)
    have HG1w2 := hide (HG1w1.out.on HG2w2.out.2.2)
    clear hb HG1w1 HG2
    have lG1_0 := HG1w2.out.lt 0 w.heap.size (by simp) rfl
    have cG1_0_0 := HG1w2.out.cell 0 0 w.heap.size _ _ _ rfl rfl rfl
    have cG1_0_1 := HG1w2.out.cell 0 1 w.heap.size _ _ _ rfl rfl rfl
    have lG2_0 := HG2w2.out.lt 0 w1.heap.size (by simp) rfl
    have cG2_0_0 := HG2w2.out.cell 0 0 w1.heap.size _ _ _ rfl rfl rfl
    have cG2_0_1 := HG2w2.out.cell 0 1 w1.heap.size _ _ _ rfl rfl rfl
    go_wp2_with fail
    go_ret
    exact ⟨rfl, HG1w2.out.2.2⟩

set_option maxHeartbeats 6400000 in
theorem deniedOrder_walk (v : Int) (o : Option Addr) (L : List Int) (cap : Nat) (a b : Int) (w : World) (hL0 : IntsOk w o L cap) :
    Calls Try.prog 7 #[dn v o L.length cap, .int .i64 a, .int .i64 b] w fun e w' => e = .returned (.bool true) ∧ Below w.heap.size w w' := by
  obtain ⟨hL, hlen, hcap, hnone⟩ := hL0
  have HL := hide hL
  have HA := hide (fun W (h : IntsAt W o L) => add_any v a L o cap W h hlen hcap hnone)
  have HB := hide (fun W (h : IntsAt W o L) => add_any v b L o cap W h hlen hcap hnone)
  clear hL hcap hnone
  by_cases hE : addE v L a = 0 ∧ addE v L b = 0
  · obtain ⟨hEa, hEb⟩ := hE
    have HA2 := hide (fun W oa ca (h : IntsAt W oa (addI L a)) (h1 : (addI L a).length ≤ ca) (h2 : oa = none → ca = 0) => add_any (v + 1) b (addI L a) oa ca W h (by rw [addI_len]; have := addE_right hEa; omega) h1 h2)
    have HB2 := hide (fun W oa ca (h : IntsAt W oa (addI L b)) (h1 : (addI L b).length ≤ ca) (h2 : oa = none → ca = 0) => add_any (v + 1) a (addI L b) oa ca W h (by rw [addI_len]; have := addE_right hEa; omega) h1 h2)
    rw [hEa, if_pos rfl, if_pos rfl] at HA
    rw [hEb, if_pos rfl, if_pos rfl] at HB
    have hX : addE (v + 1) (addI L b) a = addE (v + 1) (addI L a) b := by
      rw [addE_twice hEa hEb, addE_twice hEb hEa]
      by_cases h : a = b
      · rw [if_pos h, if_pos h.symm]
      · rw [if_neg h, if_neg (fun h' => h h'.symm)]
    have hN : (if addE (v + 1) (addI L a) b = 0 then addI (addI L b) a else []) = (if addE (v + 1) (addI L a) b = 0 then addI (addI L a) b else []) := by
      by_cases h : addE (v + 1) (addI L a) b = 0
      · rw [if_pos h, if_pos h]
        refine (addI_comm L ?_).symm
        intro hab
        rw [addE_twice hEa hEb, if_pos hab] at h
        cases h
      · rw [if_neg h, if_neg h]
    have hl : (if addE (v + 1) (addI L a) b = 0 then addI (addI L a) b else []).length ≤ 100 := by
      split
      · rw [addI_len, addI_len]; have := addE_right hEa; omega
      · simp
    have h6 : (addE (v + 1) (addI L a) b != 6) = true ∨ ((addE (v + 1) (addI L a) b != 6) = false ∧ (a == b) = true) := by
      rw [addE_twice hEa hEb]
      by_cases h : a = b
      · right; rw [if_pos h]; exact ⟨rfl, by simpa using h⟩
      · left
        rw [if_neg h]
        split <;> rfl
    rw [hX, hN] at HB2
    generalize addE (v + 1) (addI L a) b = X at *
    generalize (if X = 0 then addI (addI L a) b else []) = N at *
    generalize (if X = 0 then v + 1 + 1 else 0) = V at *
    have HS := hide (fun W oa ob ca cb (h : IntsAt W oa N) (h' : IntsAt W ob N) => sameDenied_same V N oa ob ca cb W h h' hl)
    generalize addI L a = M at *
    generalize addI L b = M' at *
    clear hEa hEb hX hN hl
    rcases h6 with h6 | ⟨h6, h7⟩
    all_goals
      go_enter Try.func7, Try.ntmps7
      go_wp2_with fail
      have HG1 := hide ((Blks.nil w).more (.cells #[.int .i64 v, .slice o L.length cap] 45) (by simp))
      refine (HA.out _ (HL.out.below HG1.out.2.2)).mono ?_
      rintro e w1 ⟨⟨u, rfl, ⟨-, rfl, oa, ca, rfl, hI⟩⟩, hb⟩
      have HG1w1 := hide (HG1.out.on hb)
      have HIa := hide hI
      clear hI
      clear hb HG1
      have lG1_0 := HG1w1.out.lt 0 w.heap.size (by simp) rfl
      have cG1_0_0 := HG1w1.out.cell 0 0 w.heap.size _ _ _ rfl rfl rfl
      have cG1_0_1 := HG1w1.out.cell 0 1 w.heap.size _ _ _ rfl rfl rfl
      go_wp2_with fail
      have HG2 := hide ((Blks.nil w1).more (.cells #[.int .i64 (v + 1), .slice oa M.length ca] 45) (by simp))
      refine (HB.out _ (HL.out.below (HG1w1.out.on HG2.out.2.2).2.2)).mono ?_
      rintro e w2 ⟨⟨u, rfl, ⟨-, rfl, ob, cb, rfl, hI⟩⟩, hb⟩
      have HG2w2 := hide (HG2.out.on hb)
      have HG1w2 := hide (HG1w1.out.on HG2w2.out.2.2)
      have HIb := hide hI
      clear hI
      clear lG1_0 cG1_0_0 cG1_0_1
      clear hb HG1w1 HG2
      have lG1_0 := HG1w2.out.lt 0 w.heap.size (by simp) rfl
      have cG1_0_0 := HG1w2.out.cell 0 0 w.heap.size _ _ _ rfl rfl rfl
      have cG1_0_1 := HG1w2.out.cell 0 1 w.heap.size _ _ _ rfl rfl rfl
      have lG2_0 := HG2w2.out.lt 0 w1.heap.size (by simp) rfl
      have cG2_0_0 := HG2w2.out.cell 0 0 w1.heap.size _ _ _ rfl rfl rfl
      have cG2_0_1 := HG2w2.out.cell 0 1 w1.heap.size _ _ _ rfl rfl rfl
      go_wp2_with fail
      have HG3 := hide ((Blks.nil w2).more (.cells #[.int .i64 (v + 1), .slice ob M'.length cb] 45) (by simp))
      refine (deniedBegun_any _).mono ?_
      rintro e w3 ⟨rfl, hb⟩
      have HG3w3 := hide (HG3.out.on hb)
      have HG1w3 := hide (HG1w2.out.on HG3w3.out.2.2)
      have HG2w3 := hide (HG2w2.out.on HG3w3.out.2.2)
      clear lG1_0 cG1_0_0 cG1_0_1 lG2_0 cG2_0_0 cG2_0_1
      clear hb HG1w2 HG2w2 HG3
      have lG1_0 := HG1w3.out.lt 0 w.heap.size (by simp) rfl
      have cG1_0_0 := HG1w3.out.cell 0 0 w.heap.size _ _ _ rfl rfl rfl
      have cG1_0_1 := HG1w3.out.cell 0 1 w.heap.size _ _ _ rfl rfl rfl
      have lG2_0 := HG2w3.out.lt 0 w1.heap.size (by simp) rfl
      have cG2_0_0 := HG2w3.out.cell 0 0 w1.heap.size _ _ _ rfl rfl rfl
      have cG2_0_1 := HG2w3.out.cell 0 1 w1.heap.size _ _ _ rfl rfl rfl
      have lG3_0 := HG3w3.out.lt 0 w2.heap.size (by simp) rfl
      have cG3_0_0 := HG3w3.out.cell 0 0 w2.heap.size _ _ _ rfl rfl rfl
      have cG3_0_1 := HG3w3.out.cell 0 1 w2.heap.size _ _ _ rfl rfl rfl
      go_wp2_with fail
      refine (HA2.out _ oa ca (HIa.out.1.below HG2w3.out.2.2) HIa.out.2.1 HIa.out.2.2).mono ?_
      rintro e w4 ⟨⟨u, rfl, ⟨-, rfl, op, cp, rfl, hI⟩⟩, hb⟩
      have HG1w4 := hide (HG1w3.out.on hb)
      have HG2w4 := hide (HG2w3.out.on hb)
      have HG3w4 := hide (HG3w3.out.on hb)
      have HIp := hide hI
      clear hI
      clear lG1_0 cG1_0_0 cG1_0_1 lG2_0 cG2_0_0 cG2_0_1 lG3_0 cG3_0_0 cG3_0_1
      clear hb HG1w3 HG2w3 HG3w3
      have lG1_0 := HG1w4.out.lt 0 w.heap.size (by simp) rfl
      have cG1_0_0 := HG1w4.out.cell 0 0 w.heap.size _ _ _ rfl rfl rfl
      have cG1_0_1 := HG1w4.out.cell 0 1 w.heap.size _ _ _ rfl rfl rfl
      have lG2_0 := HG2w4.out.lt 0 w1.heap.size (by simp) rfl
      have cG2_0_0 := HG2w4.out.cell 0 0 w1.heap.size _ _ _ rfl rfl rfl
      have cG2_0_1 := HG2w4.out.cell 0 1 w1.heap.size _ _ _ rfl rfl rfl
      have lG3_0 := HG3w4.out.lt 0 w2.heap.size (by simp) rfl
      have cG3_0_0 := HG3w4.out.cell 0 0 w2.heap.size _ _ _ rfl rfl rfl
      have cG3_0_1 := HG3w4.out.cell 0 1 w2.heap.size _ _ _ rfl rfl rfl
      go_wp2_with fail
      have HG4 := hide ((Blks.nil w4).more (.cells #[.int .i64 V, .slice op N.length cp] 45) (by simp))
      refine (HB2.out _ ob cb (HIb.out.1.below (HG3w4.out.on HG4.out.2.2).2.2) HIb.out.2.1 HIb.out.2.2).mono ?_
      rintro e w5 ⟨⟨u, rfl, ⟨-, rfl, oq, cq, rfl, hI⟩⟩, hb⟩
      have HG4w5 := hide (HG4.out.on hb)
      have HG1w5 := hide (HG1w4.out.on HG4w5.out.2.2)
      have HG2w5 := hide (HG2w4.out.on HG4w5.out.2.2)
      have HG3w5 := hide (HG3w4.out.on HG4w5.out.2.2)
      have HIq := hide hI
      clear hI
      clear lG1_0 cG1_0_0 cG1_0_1 lG2_0 cG2_0_0 cG2_0_1 lG3_0 cG3_0_0 cG3_0_1
      clear hb HG1w4 HG2w4 HG3w4 HG4
      have lG1_0 := HG1w5.out.lt 0 w.heap.size (by simp) rfl
      have cG1_0_0 := HG1w5.out.cell 0 0 w.heap.size _ _ _ rfl rfl rfl
      have cG1_0_1 := HG1w5.out.cell 0 1 w.heap.size _ _ _ rfl rfl rfl
      have lG2_0 := HG2w5.out.lt 0 w1.heap.size (by simp) rfl
      have cG2_0_0 := HG2w5.out.cell 0 0 w1.heap.size _ _ _ rfl rfl rfl
      have cG2_0_1 := HG2w5.out.cell 0 1 w1.heap.size _ _ _ rfl rfl rfl
      have lG3_0 := HG3w5.out.lt 0 w2.heap.size (by simp) rfl
      have cG3_0_0 := HG3w5.out.cell 0 0 w2.heap.size _ _ _ rfl rfl rfl
      have cG3_0_1 := HG3w5.out.cell 0 1 w2.heap.size _ _ _ rfl rfl rfl
      have lG4_0 := HG4w5.out.lt 0 w4.heap.size (by simp) rfl
      have cG4_0_0 := HG4w5.out.cell 0 0 w4.heap.size _ _ _ rfl rfl rfl
      have cG4_0_1 := HG4w5.out.cell 0 1 w4.heap.size _ _ _ rfl rfl rfl
      go_wp2_with fail
      have HG5 := hide ((Blks.nil w5).more (.cells #[.int .i64 V, .slice oq N.length cq] 45) (by simp))
      refine (HS.out _ op oq cp cq (HIp.out.1.below (HG4w5.out.on HG5.out.2.2).2.2) (HIq.out.1.below HG5.out.2.2)).mono ?_
      rintro e w6 ⟨rfl, hb⟩
      have HG5w6 := hide (HG5.out.on hb)
      have HG1w6 := hide (HG1w5.out.on HG5w6.out.2.2)
      have HG2w6 := hide (HG2w5.out.on HG5w6.out.2.2)
      have HG3w6 := hide (HG3w5.out.on HG5w6.out.2.2)
      have HG4w6 := hide (HG4w5.out.on HG5w6.out.2.2)
      clear lG1_0 cG1_0_0 cG1_0_1 lG2_0 cG2_0_0 cG2_0_1 lG3_0 cG3_0_0 cG3_0_1 lG4_0 cG4_0_0 cG4_0_1
      clear hb HG1w5 HG2w5 HG3w5 HG4w5 HG5
      have lG1_0 := HG1w6.out.lt 0 w.heap.size (by simp) rfl
      have cG1_0_0 := HG1w6.out.cell 0 0 w.heap.size _ _ _ rfl rfl rfl
      have cG1_0_1 := HG1w6.out.cell 0 1 w.heap.size _ _ _ rfl rfl rfl
      have lG2_0 := HG2w6.out.lt 0 w1.heap.size (by simp) rfl
      have cG2_0_0 := HG2w6.out.cell 0 0 w1.heap.size _ _ _ rfl rfl rfl
      have cG2_0_1 := HG2w6.out.cell 0 1 w1.heap.size _ _ _ rfl rfl rfl
      have lG3_0 := HG3w6.out.lt 0 w2.heap.size (by simp) rfl
      have cG3_0_0 := HG3w6.out.cell 0 0 w2.heap.size _ _ _ rfl rfl rfl
      have cG3_0_1 := HG3w6.out.cell 0 1 w2.heap.size _ _ _ rfl rfl rfl
      have lG4_0 := HG4w6.out.lt 0 w4.heap.size (by simp) rfl
      have cG4_0_0 := HG4w6.out.cell 0 0 w4.heap.size _ _ _ rfl rfl rfl
      have cG4_0_1 := HG4w6.out.cell 0 1 w4.heap.size _ _ _ rfl rfl rfl
      have lG5_0 := HG5w6.out.lt 0 w5.heap.size (by simp) rfl
      have cG5_0_0 := HG5w6.out.cell 0 0 w5.heap.size _ _ _ rfl rfl rfl
      have cG5_0_1 := HG5w6.out.cell 0 1 w5.heap.size _ _ _ rfl rfl rfl
      go_wp2_with fail
      go_ret
      exact ⟨rfl, HG1w6.out.2.2⟩
  · have hp : (addE v L a != 0) = true ∨ ((addE v L a != 0) = false ∧ (addE v L b != 0) = true) := by
      by_cases h1 : addE v L a = 0
      · right
        exact ⟨by simpa using h1, by simpa using fun h2 => hE ⟨h1, h2⟩⟩
      · left; simpa using h1
    generalize (if addE v L a = 0 then addI L a else []) = M at *
    generalize (if addE v L b = 0 then addI L b else []) = M' at *
    generalize (if addE v L a = 0 then v + 1 else 0) = V at *
    generalize (if addE v L b = 0 then v + 1 else 0) = V' at *
    generalize addE v L a = X at *
    generalize addE v L b = Y at *
    clear hE
    rcases hp with h1 | ⟨h1, h2⟩
    all_goals
      go_enter Try.func7, Try.ntmps7
      go_wp2_with fail
      have HG1 := hide ((Blks.nil w).more (.cells #[.int .i64 v, .slice o L.length cap] 45) (by simp))
      refine (HA.out _ (HL.out.below HG1.out.2.2)).mono ?_
      rintro e w1 ⟨⟨u, rfl, ⟨-, rfl, oa, ca, rfl, hI⟩⟩, hb⟩
      have HG1w1 := hide (HG1.out.on hb)
      clear hI
      clear hb HG1
      have lG1_0 := HG1w1.out.lt 0 w.heap.size (by simp) rfl
      have cG1_0_0 := HG1w1.out.cell 0 0 w.heap.size _ _ _ rfl rfl rfl
      have cG1_0_1 := HG1w1.out.cell 0 1 w.heap.size _ _ _ rfl rfl rfl
      go_wp2_with fail
      have HG2 := hide ((Blks.nil w1).more (.cells #[.int .i64 V, .slice oa M.length ca] 45) (by simp))
      refine (HB.out _ (HL.out.below (HG1w1.out.on HG2.out.2.2).2.2)).mono ?_
      rintro e w2 ⟨⟨u, rfl, ⟨-, rfl, ob, cb, rfl, hI⟩⟩, hb⟩
      have HG2w2 := hide (HG2.out.on hb)
      have HG1w2 := hide (HG1w1.out.on HG2w2.out.2.2)
      clear hI
      clear lG1_0 cG1_0_0 cG1_0_1
      clear hb HG1w1 HG2
      have lG1_0 := HG1w2.out.lt 0 w.heap.size (by simp) rfl
      have cG1_0_0 := HG1w2.out.cell 0 0 w.heap.size _ _ _ rfl rfl rfl
      have cG1_0_1 := HG1w2.out.cell 0 1 w.heap.size _ _ _ rfl rfl rfl
      have lG2_0 := HG2w2.out.lt 0 w1.heap.size (by simp) rfl
      have cG2_0_0 := HG2w2.out.cell 0 0 w1.heap.size _ _ _ rfl rfl rfl
      have cG2_0_1 := HG2w2.out.cell 0 1 w1.heap.size _ _ _ rfl rfl rfl
      go_wp2_with fail
      have HG3 := hide ((Blks.nil w2).more (.cells #[.int .i64 V', .slice ob M'.length cb] 45) (by simp))
      refine (deniedBegun_any _).mono ?_
      rintro e w3 ⟨rfl, hb⟩
      have HG3w3 := hide (HG3.out.on hb)
      have HG1w3 := hide (HG1w2.out.on HG3w3.out.2.2)
      have HG2w3 := hide (HG2w2.out.on HG3w3.out.2.2)
      clear lG1_0 cG1_0_0 cG1_0_1 lG2_0 cG2_0_0 cG2_0_1
      clear hb HG1w2 HG2w2 HG3
      have lG1_0 := HG1w3.out.lt 0 w.heap.size (by simp) rfl
      have cG1_0_0 := HG1w3.out.cell 0 0 w.heap.size _ _ _ rfl rfl rfl
      have cG1_0_1 := HG1w3.out.cell 0 1 w.heap.size _ _ _ rfl rfl rfl
      have lG2_0 := HG2w3.out.lt 0 w1.heap.size (by simp) rfl
      have cG2_0_0 := HG2w3.out.cell 0 0 w1.heap.size _ _ _ rfl rfl rfl
      have cG2_0_1 := HG2w3.out.cell 0 1 w1.heap.size _ _ _ rfl rfl rfl
      have lG3_0 := HG3w3.out.lt 0 w2.heap.size (by simp) rfl
      have cG3_0_0 := HG3w3.out.cell 0 0 w2.heap.size _ _ _ rfl rfl rfl
      have cG3_0_1 := HG3w3.out.cell 0 1 w2.heap.size _ _ _ rfl rfl rfl
      go_wp2_with fail
      go_ret
      exact ⟨rfl, HG1w3.out.2.2⟩
end Go.Proofs.Ytcakfmpckbmdeac
