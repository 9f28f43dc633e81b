/-
  'SameGate' (package leeboardref) of the same ones; the walk of GateTold.
-/
import Derived.Test.YtcakfmpckbmdeadJ9
import Derived.Test.YtcakfmpckbmdeadJ10
import Derived.Test.YtcakfmpckbmdeadN9
import Derived.Test.YtcakfmpckbmdeadW3
namespace Go.Proofs.Ytcakfmpckbmdead
open Go.RowKit

set_option maxHeartbeats 1600000 in
theorem sameGate_same (i z s : Int) (P : List TP) (v : Int) (D : List Int) (l u : Int) (oa oa' od od' : Option Addr) (ca ca' cd cd' : Nat) (w : World) (h1 : TapsAt w oa P) (h2 : TapsAt w oa' P) (h3 : IntsAt w od D) (h4 : IntsAt w od' D) (hP : P.length ≤ 100) (hD : D.length ≤ 100) :
    Calls Try.prog 16 #[gtV i z s oa P.length ca v od D.length cd l u, gtV i z s oa' P.length ca' v od' D.length cd' l u] w fun e w' => e = .returned (.bool true) ∧ Below w.heap.size w w' := by
  have HA := hide (fun W (h : TapsAt W oa P) (h' : TapsAt W oa' P) => sameTaps_same P oa oa' ca ca' W h h' hP)
  have HB := hide (fun W (h : IntsAt W od D) (h' : IntsAt W od' D) => sameDenied_same v D od od' cd cd' W h h' hD)
  have H1 := hide h1
  have H2 := hide h2
  have H3 := hide h3
  have H4 := hide h4
  clear h1 h2 h3 h4
  go_enter Try.func16, Try.ntmps16
  go_wp2_with fail
  have HG1 := hide (((Blks.nil w).more (.cells #[.int .i64 i, .int .i64 z, .int .i64 s, .slice oa P.length ca, .int .i64 v, .slice od D.length cd, .int .i64 l, .int .i64 u] 29) (by simp)).more (.cells #[.int .i64 i, .int .i64 z, .int .i64 s, .slice oa' P.length ca', .int .i64 v, .slice od' D.length cd', .int .i64 l, .int .i64 u] 29) (by simp))
  refine (HA.out _ (H1.out.below HG1.out.2.2) (H2.out.below HG1.out.2.2)).mono ?_
  rintro e w1 ⟨rfl, hb⟩
  have HG1w1 := hide (HG1.out.on hb)
  clear hb HG1
  have lG1_0 := HG1w1.out.lt 0 w.heap.size (by simp) rfl
  have cG1_0_0 := HG1w1.out.cell 0 0 w.heap.size _ _ _ rfl rfl rfl
  have cG1_0_1 := HG1w1.out.cell 0 1 w.heap.size _ _ _ rfl rfl rfl
  have cG1_0_2 := HG1w1.out.cell 0 2 w.heap.size _ _ _ rfl rfl rfl
  have cG1_0_3 := HG1w1.out.cell 0 3 w.heap.size _ _ _ rfl rfl rfl
  have cG1_0_4 := HG1w1.out.cell 0 4 w.heap.size _ _ _ rfl rfl rfl
  have cG1_0_5 := HG1w1.out.cell 0 5 w.heap.size _ _ _ rfl rfl rfl
  have cG1_0_6 := HG1w1.out.cell 0 6 w.heap.size _ _ _ rfl rfl rfl
  have cG1_0_7 := HG1w1.out.cell 0 7 w.heap.size _ _ _ rfl rfl rfl
  have lG1_1 := HG1w1.out.lt 1 (w.heap.size + 1) (by simp) rfl
  have cG1_1_0 := HG1w1.out.cell 1 0 (w.heap.size + 1) _ _ _ rfl rfl rfl
  have cG1_1_1 := HG1w1.out.cell 1 1 (w.heap.size + 1) _ _ _ rfl rfl rfl
  have cG1_1_2 := HG1w1.out.cell 1 2 (w.heap.size + 1) _ _ _ rfl rfl rfl
  have cG1_1_3 := HG1w1.out.cell 1 3 (w.heap.size + 1) _ _ _ rfl rfl rfl
  have cG1_1_4 := HG1w1.out.cell 1 4 (w.heap.size + 1) _ _ _ rfl rfl rfl
  have cG1_1_5 := HG1w1.out.cell 1 5 (w.heap.size + 1) _ _ _ rfl rfl rfl
  have cG1_1_6 := HG1w1.out.cell 1 6 (w.heap.size + 1) _ _ _ rfl rfl rfl
  have cG1_1_7 := HG1w1.out.cell 1 7 (w.heap.size + 1) _ _ _ rfl rfl rfl
  go_wp2_with fail
  refine (HB.out _ (H3.out.below HG1w1.out.2.2) (H4.out.below HG1w1.out.2.2)).mono ?_
  rintro e w2 ⟨rfl, hb⟩
  have HG1w2 := hide (HG1w1.out.on hb)
  clear lG1_0 cG1_0_0 cG1_0_1 cG1_0_2 cG1_0_3 cG1_0_4 cG1_0_5 cG1_0_6 cG1_0_7 lG1_1 cG1_1_0 cG1_1_1 cG1_1_2 cG1_1_3 cG1_1_4 cG1_1_5 cG1_1_6 cG1_1_7
  clear hb HG1w1
  have lG1_0 := HG1w2.out.lt 0 w.heap.size (by simp) rfl
  have cG1_0_0 := HG1w2.out.cell 0 0 w.heap.size _ _ _ rfl rfl rfl
  have cG1_0_1 := HG1w2.out.cell 0 1 w.heap.size _ _ _ rfl rfl rfl
  have cG1_0_2 := HG1w2.out.cell 0 2 w.heap.size _ _ _ rfl rfl rfl
  have cG1_0_3 := HG1w2.out.cell 0 3 w.heap.size _ _ _ rfl rfl rfl
  have cG1_0_4 := HG1w2.out.cell 0 4 w.heap.size _ _ _ rfl rfl rfl
  have cG1_0_5 := HG1w2.out.cell 0 5 w.heap.size _ _ _ rfl rfl rfl
  have cG1_0_6 := HG1w2.out.cell 0 6 w.heap.size _ _ _ rfl rfl rfl
  have cG1_0_7 := HG1w2.out.cell 0 7 w.heap.size _ _ _ rfl rfl rfl
  have lG1_1 := HG1w2.out.lt 1 (w.heap.size + 1) (by simp) rfl
  have cG1_1_0 := HG1w2.out.cell 1 0 (w.heap.size + 1) _ _ _ rfl rfl rfl
  have cG1_1_1 := HG1w2.out.cell 1 1 (w.heap.size + 1) _ _ _ rfl rfl rfl
  have cG1_1_2 := HG1w2.out.cell 1 2 (w.heap.size + 1) _ _ _ rfl rfl rfl
  have cG1_1_3 := HG1w2.out.cell 1 3 (w.heap.size + 1) _ _ _ rfl rfl rfl
  have cG1_1_4 := HG1w2.out.cell 1 4 (w.heap.size + 1) _ _ _ rfl rfl rfl
  have cG1_1_5 := HG1w2.out.cell 1 5 (w.heap.size + 1) _ _ _ rfl rfl rfl
  have cG1_1_6 := HG1w2.out.cell 1 6 (w.heap.size + 1) _ _ _ rfl rfl rfl
  have cG1_1_7 := HG1w2.out.cell 1 7 (w.heap.size + 1) _ _ _ rfl rfl rfl
  go_wp2_with fail
  go_ret
  exact ⟨rfl, HG1w2.out.2.2⟩

set_option maxHeartbeats 3200000 in
theorem gateTold_walk (i z s : Int) (oa : Option Addr) (P : List TP) (ca : Nat) (v : Int) (od : Option Addr) (D : List Int) (cd : Nat) (l u : Int) (v' : Int) (od' : Option Addr) (D' : List Int) (cd' : Nat) (m : Int) (w : World) (ha : TapsOk w oa P ca) (hd : IntsOk w od D cd) (hd' : IntsOk w od' D' cd') :
    Calls Try.prog 4 #[gtV i z s oa P.length ca v od D.length cd l u, dn v' od' D'.length cd', .int .i64 m] w fun e w' => e = .returned (.bool true) ∧ Below w.heap.size w w' := by
  obtain ⟨hP, hlP, hcP, hnP⟩ := ha
  obtain ⟨hD, hlD, hcD, hnD⟩ := hd
  obtain ⟨hD', hlD', hcD', hnD'⟩ := hd'
  have HP := hide hP
  have HD := hide hD
  have HD' := hide hD'
  clear hcP hcD hnD hP hD hnP hcD' hnD' hD'
  by_cases hE : syncG i z s P v D l u v' D' m = 0
  · have hr := syncG_right hE
    have hl12 : P.length ≤ 12 := (errS_right (chkG_right hr.1).1).2.2.2
    have HS := hide (fun W (h : TapsAt W oa P) (h' : IntsAt W od D) (h'' : IntsAt W od' D') => gateSync_ok i z s oa P ca v od D cd l u v' od' D' cd' m W h h' h'' hlD hlD' hl12 hE)
    obtain ⟨hc, hs⟩ := chkG_told hE
    have hN : (if v < v' then D' else D).length ≤ 12 := by
      have := chkD_right (newE_right hr.2.1).1
      have := chkD_right (newE_right hr.2.1).2
      split <;> omega
    have hV1 : v ≤ (if v < v' then v' else v) := by split <;> omega
    have hV2 : v' ≤ (if v < v' then v' else v) := by split <;> omega
    generalize (if v < v' then v' else v) = V at *
    generalize (if v < v' then D' else D) = N at *
    have HS2 := hide (fun W on cn (h' : IntsAt W on N) (h'' : IntsAt W od' D') => gateSync_ok i z s none [] 0 V on N cn 9 (m + 100) v' od' D' cd' m W (tapsAt_nil W none) h' h'' (by omega) hlD' (by simp) hs)
    rw [if_neg (by omega), if_neg (by omega)] at HS2
    have HC := hide (fun W on cn (h' : IntsAt W on N) => gateCheck_any i z s none [] 0 V on N cn 9 (m + 100) W (tapsAt_nil W none) h' (by omega))
    rw [hc] at HC
    have HSa := hide (fun W o c (h : TapsAt W o P) (h' : TapsAt W oa P) => sameTaps_same P o oa c ca W h h' (by omega))
    have HSg := hide (fun W on cn on' cn' (h : IntsAt W on N) (h' : IntsAt W on' N) => sameGate_same i z s [] V N 9 (m + 100) none none on on' 0 0 cn cn' W (tapsAt_nil W none) (tapsAt_nil W none) h h' (by simp) (by omega))
    clear hE hr hc hs hN hl12 hlP hlD hlD'
    go_enter Try.func4, Try.ntmps4
    go_wp2_with fail
    have HG1 := hide (((Blks.nil w).more (.cells #[.int .i64 i, .int .i64 z, .int .i64 s, .slice oa P.length ca, .int .i64 v, .slice od D.length cd, .int .i64 l, .int .i64 u] 29) (by simp)).more (.cells #[.int .i64 v', .slice od' D'.length cd'] 25) (by simp))
    refine (HS.out _ (HP.out.below HG1.out.2.2) (HD.out.below HG1.out.2.2) (HD'.out.below HG1.out.2.2)).mono ?_
    rintro e w1 ⟨⟨on, cn, x, rfl, ⟨on', cn', e1, hI⟩, -, ⟨ox, cx, rfl, hT⟩, -⟩, hb⟩
    have HG1w1 := hide (HG1.out.on hb)
    simp only [Value.slice.injEq] at e1
    obtain ⟨rfl, -, rfl⟩ := e1
    have HI1 := hide hI.1
    have HT1 := hide hT.1
    clear hI hT
    clear hb HG1
    have lG1_0 := HG1w1.out.lt 0 w.heap.size (by simp) rfl
    have cG1_0_0 := HG1w1.out.cell 0 0 w.heap.size _ _ _ rfl rfl rfl
    have cG1_0_1 := HG1w1.out.cell 0 1 w.heap.size _ _ _ rfl rfl rfl
    have cG1_0_2 := HG1w1.out.cell 0 2 w.heap.size _ _ _ rfl rfl rfl
    have cG1_0_3 := HG1w1.out.cell 0 3 w.heap.size _ _ _ rfl rfl rfl
    have cG1_0_4 := HG1w1.out.cell 0 4 w.heap.size _ _ _ rfl rfl rfl
    have cG1_0_5 := HG1w1.out.cell 0 5 w.heap.size _ _ _ rfl rfl rfl
    have cG1_0_6 := HG1w1.out.cell 0 6 w.heap.size _ _ _ rfl rfl rfl
    have cG1_0_7 := HG1w1.out.cell 0 7 w.heap.size _ _ _ rfl rfl rfl
    have lG1_1 := HG1w1.out.lt 1 (w.heap.size + 1) (by simp) rfl
    have cG1_1_0 := HG1w1.out.cell 1 0 (w.heap.size + 1) _ _ _ rfl rfl rfl
    have cG1_1_1 := HG1w1.out.cell 1 1 (w.heap.size + 1) _ _ _ rfl rfl rfl
    go_wp2_with fail
    have HG2 := hide ((Blks.nil w1).more (.cells #[.int .i64 i, .int .i64 z, .int .i64 s, .slice none 0 0, .int .i64 V, .slice on N.length cn, .int .i64 9, .int .i64 (m + 100)] 29) (by simp))
    refine (gateBegun_any _).mono ?_
    rintro e w2 ⟨rfl, hb⟩
    have HG2w2 := hide (HG2.out.on hb)
    have HG1w2 := hide (HG1w1.out.on HG2w2.out.2.2)
    clear lG1_0 cG1_0_0 cG1_0_1 cG1_0_2 cG1_0_3 cG1_0_4 cG1_0_5 cG1_0_6 cG1_0_7 lG1_1 cG1_1_0 cG1_1_1
    clear hb HG1w1 HG2
    have lG1_0 := HG1w2.out.lt 0 w.heap.size (by simp) rfl
    have cG1_0_0 := HG1w2.out.cell 0 0 w.heap.size _ _ _ rfl rfl rfl
    have cG1_0_1 := HG1w2.out.cell 0 1 w.heap.size _ _ _ rfl rfl rfl
    have cG1_0_2 := HG1w2.out.cell 0 2 w.heap.size _ _ _ rfl rfl rfl
    have cG1_0_3 := HG1w2.out.cell 0 3 w.heap.size _ _ _ rfl rfl rfl
    have cG1_0_4 := HG1w2.out.cell 0 4 w.heap.size _ _ _ rfl rfl rfl
    have cG1_0_5 := HG1w2.out.cell 0 5 w.heap.size _ _ _ rfl rfl rfl
    have cG1_0_6 := HG1w2.out.cell 0 6 w.heap.size _ _ _ rfl rfl rfl
    have cG1_0_7 := HG1w2.out.cell 0 7 w.heap.size _ _ _ rfl rfl rfl
    have lG1_1 := HG1w2.out.lt 1 (w.heap.size + 1) (by simp) rfl
    have cG1_1_0 := HG1w2.out.cell 1 0 (w.heap.size + 1) _ _ _ rfl rfl rfl
    have cG1_1_1 := HG1w2.out.cell 1 1 (w.heap.size + 1) _ _ _ rfl rfl rfl
    have lG2_0 := HG2w2.out.lt 0 w1.heap.size (by simp) rfl
    have cG2_0_0 := HG2w2.out.cell 0 0 w1.heap.size _ _ _ rfl rfl rfl
    have cG2_0_1 := HG2w2.out.cell 0 1 w1.heap.size _ _ _ rfl rfl rfl
    have cG2_0_2 := HG2w2.out.cell 0 2 w1.heap.size _ _ _ rfl rfl rfl
    have cG2_0_3 := HG2w2.out.cell 0 3 w1.heap.size _ _ _ rfl rfl rfl
    have cG2_0_4 := HG2w2.out.cell 0 4 w1.heap.size _ _ _ rfl rfl rfl
    have cG2_0_5 := HG2w2.out.cell 0 5 w1.heap.size _ _ _ rfl rfl rfl
    have cG2_0_6 := HG2w2.out.cell 0 6 w1.heap.size _ _ _ rfl rfl rfl
    have cG2_0_7 := HG2w2.out.cell 0 7 w1.heap.size _ _ _ rfl rfl rfl
    go_wp2_with fail
    refine (deniedBegun_any _).mono ?_
    rintro e w3 ⟨rfl, hb⟩
    have HG1w3 := hide (HG1w2.out.on hb)
    have HG2w3 := hide (HG2w2.out.on hb)
    clear lG1_0 cG1_0_0 cG1_0_1 cG1_0_2 cG1_0_3 cG1_0_4 cG1_0_5 cG1_0_6 cG1_0_7 lG1_1 cG1_1_0 cG1_1_1 lG2_0 cG2_0_0 cG2_0_1 cG2_0_2 cG2_0_3 cG2_0_4 cG2_0_5 cG2_0_6 cG2_0_7
    clear hb HG1w2 HG2w2
    have lG1_0 := HG1w3.out.lt 0 w.heap.size (by simp) rfl
    have cG1_0_0 := HG1w3.out.cell 0 0 w.heap.size _ _ _ rfl rfl rfl
    have cG1_0_1 := HG1w3.out.cell 0 1 w.heap.size _ _ _ rfl rfl rfl
    have cG1_0_2 := HG1w3.out.cell 0 2 w.heap.size _ _ _ rfl rfl rfl
    have cG1_0_3 := HG1w3.out.cell 0 3 w.heap.size _ _ _ rfl rfl rfl
    have cG1_0_4 := HG1w3.out.cell 0 4 w.heap.size _ _ _ rfl rfl rfl
    have cG1_0_5 := HG1w3.out.cell 0 5 w.heap.size _ _ _ rfl rfl rfl
    have cG1_0_6 := HG1w3.out.cell 0 6 w.heap.size _ _ _ rfl rfl rfl
    have cG1_0_7 := HG1w3.out.cell 0 7 w.heap.size _ _ _ rfl rfl rfl
    have lG1_1 := HG1w3.out.lt 1 (w.heap.size + 1) (by simp) rfl
    have cG1_1_0 := HG1w3.out.cell 1 0 (w.heap.size + 1) _ _ _ rfl rfl rfl
    have cG1_1_1 := HG1w3.out.cell 1 1 (w.heap.size + 1) _ _ _ rfl rfl rfl
    have lG2_0 := HG2w3.out.lt 0 w1.heap.size (by simp) rfl
    have cG2_0_0 := HG2w3.out.cell 0 0 w1.heap.size _ _ _ rfl rfl rfl
    have cG2_0_1 := HG2w3.out.cell 0 1 w1.heap.size _ _ _ rfl rfl rfl
    have cG2_0_2 := HG2w3.out.cell 0 2 w1.heap.size _ _ _ rfl rfl rfl
    have cG2_0_3 := HG2w3.out.cell 0 3 w1.heap.size _ _ _ rfl rfl rfl
    have cG2_0_4 := HG2w3.out.cell 0 4 w1.heap.size _ _ _ rfl rfl rfl
    have cG2_0_5 := HG2w3.out.cell 0 5 w1.heap.size _ _ _ rfl rfl rfl
    have cG2_0_6 := HG2w3.out.cell 0 6 w1.heap.size _ _ _ rfl rfl rfl
    have cG2_0_7 := HG2w3.out.cell 0 7 w1.heap.size _ _ _ rfl rfl rfl
    go_wp2_with fail
    refine (HS2.out _ on cn (HI1.out.below HG2w3.out.2.2) (HD'.out.below HG1w3.out.2.2)).mono ?_
    rintro e w4 ⟨⟨on2, cn2, x, rfl, ⟨on2', cn2', e1, hI⟩, -, ⟨ox2, cx2, rfl, -⟩, -⟩, hb⟩
    have HG1w4 := hide (HG1w3.out.on hb)
    have HG2w4 := hide (HG2w3.out.on hb)
    simp only [Value.slice.injEq] at e1
    obtain ⟨rfl, -, rfl⟩ := e1
    have HI2 := hide hI.1
    clear hI
    clear lG1_0 cG1_0_0 cG1_0_1 cG1_0_2 cG1_0_3 cG1_0_4 cG1_0_5 cG1_0_6 cG1_0_7 lG1_1 cG1_1_0 cG1_1_1 lG2_0 cG2_0_0 cG2_0_1 cG2_0_2 cG2_0_3 cG2_0_4 cG2_0_5 cG2_0_6 cG2_0_7
    clear hb HG1w3 HG2w3
    have lG1_0 := HG1w4.out.lt 0 w.heap.size (by simp) rfl
    have cG1_0_0 := HG1w4.out.cell 0 0 w.heap.size _ _ _ rfl rfl rfl
    have cG1_0_1 := HG1w4.out.cell 0 1 w.heap.size _ _ _ rfl rfl rfl
    have cG1_0_2 := HG1w4.out.cell 0 2 w.heap.size _ _ _ rfl rfl rfl
    have cG1_0_3 := HG1w4.out.cell 0 3 w.heap.size _ _ _ rfl rfl rfl
    have cG1_0_4 := HG1w4.out.cell 0 4 w.heap.size _ _ _ rfl rfl rfl
    have cG1_0_5 := HG1w4.out.cell 0 5 w.heap.size _ _ _ rfl rfl rfl
    have cG1_0_6 := HG1w4.out.cell 0 6 w.heap.size _ _ _ rfl rfl rfl
    have cG1_0_7 := HG1w4.out.cell 0 7 w.heap.size _ _ _ rfl rfl rfl
    have lG1_1 := HG1w4.out.lt 1 (w.heap.size + 1) (by simp) rfl
    have cG1_1_0 := HG1w4.out.cell 1 0 (w.heap.size + 1) _ _ _ rfl rfl rfl
    have cG1_1_1 := HG1w4.out.cell 1 1 (w.heap.size + 1) _ _ _ rfl rfl rfl
    have lG2_0 := HG2w4.out.lt 0 w1.heap.size (by simp) rfl
    have cG2_0_0 := HG2w4.out.cell 0 0 w1.heap.size _ _ _ rfl rfl rfl
    have cG2_0_1 := HG2w4.out.cell 0 1 w1.heap.size _ _ _ rfl rfl rfl
    have cG2_0_2 := HG2w4.out.cell 0 2 w1.heap.size _ _ _ rfl rfl rfl
    have cG2_0_3 := HG2w4.out.cell 0 3 w1.heap.size _ _ _ rfl rfl rfl
    have cG2_0_4 := HG2w4.out.cell 0 4 w1.heap.size _ _ _ rfl rfl rfl
    have cG2_0_5 := HG2w4.out.cell 0 5 w1.heap.size _ _ _ rfl rfl rfl
    have cG2_0_6 := HG2w4.out.cell 0 6 w1.heap.size _ _ _ rfl rfl rfl
    have cG2_0_7 := HG2w4.out.cell 0 7 w1.heap.size _ _ _ rfl rfl rfl
    go_wp2_with fail
    have HG3 := hide ((Blks.nil w4).more (.cells #[.int .i64 i, .int .i64 z, .int .i64 s, .slice none 0 0, .int .i64 V, .slice on2 N.length cn2, .int .i64 9, .int .i64 (m + 100)] 29) (by simp))
    refine (HSa.out _ ox cx (HT1.out.below (HG2w4.out.on HG3.out.2.2).2.2) (HP.out.below (HG1w4.out.on HG3.out.2.2).2.2)).mono ?_
    rintro e w5 ⟨rfl, hb⟩
    have HG3w5 := hide (HG3.out.on hb)
    have HG1w5 := hide (HG1w4.out.on HG3w5.out.2.2)
    have HG2w5 := hide (HG2w4.out.on HG3w5.out.2.2)
    clear lG1_0 cG1_0_0 cG1_0_1 cG1_0_2 cG1_0_3 cG1_0_4 cG1_0_5 cG1_0_6 cG1_0_7 lG1_1 cG1_1_0 cG1_1_1 lG2_0 cG2_0_0 cG2_0_1 cG2_0_2 cG2_0_3 cG2_0_4 cG2_0_5 cG2_0_6 cG2_0_7
    clear hb HG1w4 HG2w4 HG3
    have lG1_0 := HG1w5.out.lt 0 w.heap.size (by simp) rfl
    have cG1_0_0 := HG1w5.out.cell 0 0 w.heap.size _ _ _ rfl rfl rfl
    have cG1_0_1 := HG1w5.out.cell 0 1 w.heap.size _ _ _ rfl rfl rfl
    have cG1_0_2 := HG1w5.out.cell 0 2 w.heap.size _ _ _ rfl rfl rfl
    have cG1_0_3 := HG1w5.out.cell 0 3 w.heap.size _ _ _ rfl rfl rfl
    have cG1_0_4 := HG1w5.out.cell 0 4 w.heap.size _ _ _ rfl rfl rfl
    have cG1_0_5 := HG1w5.out.cell 0 5 w.heap.size _ _ _ rfl rfl rfl
    have cG1_0_6 := HG1w5.out.cell 0 6 w.heap.size _ _ _ rfl rfl rfl
    have cG1_0_7 := HG1w5.out.cell 0 7 w.heap.size _ _ _ rfl rfl rfl
    have lG1_1 := HG1w5.out.lt 1 (w.heap.size + 1) (by simp) rfl
    have cG1_1_0 := HG1w5.out.cell 1 0 (w.heap.size + 1) _ _ _ rfl rfl rfl
    have cG1_1_1 := HG1w5.out.cell 1 1 (w.heap.size + 1) _ _ _ rfl rfl rfl
    have lG2_0 := HG2w5.out.lt 0 w1.heap.size (by simp) rfl
    have cG2_0_0 := HG2w5.out.cell 0 0 w1.heap.size _ _ _ rfl rfl rfl
    have cG2_0_1 := HG2w5.out.cell 0 1 w1.heap.size _ _ _ rfl rfl rfl
    have cG2_0_2 := HG2w5.out.cell 0 2 w1.heap.size _ _ _ rfl rfl rfl
    have cG2_0_3 := HG2w5.out.cell 0 3 w1.heap.size _ _ _ rfl rfl rfl
    have cG2_0_4 := HG2w5.out.cell 0 4 w1.heap.size _ _ _ rfl rfl rfl
    have cG2_0_5 := HG2w5.out.cell 0 5 w1.heap.size _ _ _ rfl rfl rfl
    have cG2_0_6 := HG2w5.out.cell 0 6 w1.heap.size _ _ _ rfl rfl rfl
    have cG2_0_7 := HG2w5.out.cell 0 7 w1.heap.size _ _ _ rfl rfl rfl
    have lG3_0 := HG3w5.out.lt 0 w4.heap.size (by simp) rfl
    have cG3_0_0 := HG3w5.out.cell 0 0 w4.heap.size _ _ _ rfl rfl rfl
    have cG3_0_1 := HG3w5.out.cell 0 1 w4.heap.size _ _ _ rfl rfl rfl
    have cG3_0_2 := HG3w5.out.cell 0 2 w4.heap.size _ _ _ rfl rfl rfl
    have cG3_0_3 := HG3w5.out.cell 0 3 w4.heap.size _ _ _ rfl rfl rfl
    have cG3_0_4 := HG3w5.out.cell 0 4 w4.heap.size _ _ _ rfl rfl rfl
    have cG3_0_5 := HG3w5.out.cell 0 5 w4.heap.size _ _ _ rfl rfl rfl
    have cG3_0_6 := HG3w5.out.cell 0 6 w4.heap.size _ _ _ rfl rfl rfl
    have cG3_0_7 := HG3w5.out.cell 0 7 w4.heap.size _ _ _ rfl rfl rfl
    go_wp2_with fail
    refine (HSg.out _ on cn on2 cn2 (HI1.out.below HG2w5.out.2.2) (HI2.out.below HG3w5.out.2.2)).mono ?_
    rintro e w6 ⟨rfl, hb⟩
    have HG1w6 := hide (HG1w5.out.on hb)
    have HG2w6 := hide (HG2w5.out.on hb)
    have HG3w6 := hide (HG3w5.out.on hb)
    clear lG1_0 cG1_0_0 cG1_0_1 cG1_0_2 cG1_0_3 cG1_0_4 cG1_0_5 cG1_0_6 cG1_0_7 lG1_1 cG1_1_0 cG1_1_1 lG2_0 cG2_0_0 cG2_0_1 cG2_0_2 cG2_0_3 cG2_0_4 cG2_0_5 cG2_0_6 cG2_0_7 lG3_0 cG3_0_0 cG3_0_1 cG3_0_2 cG3_0_3 cG3_0_4 cG3_0_5 cG3_0_6 cG3_0_7
    clear hb HG1w5 HG2w5 HG3w5
    have lG1_0 := HG1w6.out.lt 0 w.heap.size (by simp) rfl
    have cG1_0_0 := HG1w6.out.cell 0 0 w.heap.size _ _ _ rfl rfl rfl
    have cG1_0_1 := HG1w6.out.cell 0 1 w.heap.size _ _ _ rfl rfl rfl
    have cG1_0_2 := HG1w6.out.cell 0 2 w.heap.size _ _ _ rfl rfl rfl
    have cG1_0_3 := HG1w6.out.cell 0 3 w.heap.size _ _ _ rfl rfl rfl
    have cG1_0_4 := HG1w6.out.cell 0 4 w.heap.size _ _ _ rfl rfl rfl
    have cG1_0_5 := HG1w6.out.cell 0 5 w.heap.size _ _ _ rfl rfl rfl
    have cG1_0_6 := HG1w6.out.cell 0 6 w.heap.size _ _ _ rfl rfl rfl
    have cG1_0_7 := HG1w6.out.cell 0 7 w.heap.size _ _ _ rfl rfl rfl
    have lG1_1 := HG1w6.out.lt 1 (w.heap.size + 1) (by simp) rfl
    have cG1_1_0 := HG1w6.out.cell 1 0 (w.heap.size + 1) _ _ _ rfl rfl rfl
    have cG1_1_1 := HG1w6.out.cell 1 1 (w.heap.size + 1) _ _ _ rfl rfl rfl
    have lG2_0 := HG2w6.out.lt 0 w1.heap.size (by simp) rfl
    have cG2_0_0 := HG2w6.out.cell 0 0 w1.heap.size _ _ _ rfl rfl rfl
    have cG2_0_1 := HG2w6.out.cell 0 1 w1.heap.size _ _ _ rfl rfl rfl
    have cG2_0_2 := HG2w6.out.cell 0 2 w1.heap.size _ _ _ rfl rfl rfl
    have cG2_0_3 := HG2w6.out.cell 0 3 w1.heap.size _ _ _ rfl rfl rfl
    have cG2_0_4 := HG2w6.out.cell 0 4 w1.heap.size _ _ _ rfl rfl rfl
    have cG2_0_5 := HG2w6.out.cell 0 5 w1.heap.size _ _ _ rfl rfl rfl
    have cG2_0_6 := HG2w6.out.cell 0 6 w1.heap.size _ _ _ rfl rfl rfl
    have cG2_0_7 := HG2w6.out.cell 0 7 w1.heap.size _ _ _ rfl rfl rfl
    have lG3_0 := HG3w6.out.lt 0 w4.heap.size (by simp) rfl
    have cG3_0_0 := HG3w6.out.cell 0 0 w4.heap.size _ _ _ rfl rfl rfl
    have cG3_0_1 := HG3w6.out.cell 0 1 w4.heap.size _ _ _ rfl rfl rfl
    have cG3_0_2 := HG3w6.out.cell 0 2 w4.heap.size _ _ _ rfl rfl rfl
    have cG3_0_3 := HG3w6.out.cell 0 3 w4.heap.size _ _ _ rfl rfl rfl
    have cG3_0_4 := HG3w6.out.cell 0 4 w4.heap.size _ _ _ rfl rfl rfl
    have cG3_0_5 := HG3w6.out.cell 0 5 w4.heap.size _ _ _ rfl rfl rfl
    have cG3_0_6 := HG3w6.out.cell 0 6 w4.heap.size _ _ _ rfl rfl rfl
    have cG3_0_7 := HG3w6.out.cell 0 7 w4.heap.size _ _ _ rfl rfl rfl
    go_wp2_with fail
    refine (HC.out _ on cn (HI1.out.below HG2w6.out.2.2)).mono ?_
    rintro e w7 ⟨rfl, hb⟩
    have HG1w7 := hide (HG1w6.out.on hb)
    have HG2w7 := hide (HG2w6.out.on hb)
    have HG3w7 := hide (HG3w6.out.on hb)
    clear lG1_0 cG1_0_0 cG1_0_1 cG1_0_2 cG1_0_3 cG1_0_4 cG1_0_5 cG1_0_6 cG1_0_7 lG1_1 cG1_1_0 cG1_1_1 lG2_0 cG2_0_0 cG2_0_1 cG2_0_2 cG2_0_3 cG2_0_4 cG2_0_5 cG2_0_6 cG2_0_7 lG3_0 cG3_0_0 cG3_0_1 cG3_0_2 cG3_0_3 cG3_0_4 cG3_0_5 cG3_0_6 cG3_0_7
    clear hb HG1w6 HG2w6 HG3w6
    have lG1_0 := HG1w7.out.lt 0 w.heap.size (by simp) rfl
    have cG1_0_0 := HG1w7.out.cell 0 0 w.heap.size _ _ _ rfl rfl rfl
    have cG1_0_1 := HG1w7.out.cell 0 1 w.heap.size _ _ _ rfl rfl rfl
    have cG1_0_2 := HG1w7.out.cell 0 2 w.heap.size _ _ _ rfl rfl rfl
    have cG1_0_3 := HG1w7.out.cell 0 3 w.heap.size _ _ _ rfl rfl rfl
    have cG1_0_4 := HG1w7.out.cell 0 4 w.heap.size _ _ _ rfl rfl rfl
    have cG1_0_5 := HG1w7.out.cell 0 5 w.heap.size _ _ _ rfl rfl rfl
    have cG1_0_6 := HG1w7.out.cell 0 6 w.heap.size _ _ _ rfl rfl rfl
    have cG1_0_7 := HG1w7.out.cell 0 7 w.heap.size _ _ _ rfl rfl rfl
    have lG1_1 := HG1w7.out.lt 1 (w.heap.size + 1) (by simp) rfl
    have cG1_1_0 := HG1w7.out.cell 1 0 (w.heap.size + 1) _ _ _ rfl rfl rfl
    have cG1_1_1 := HG1w7.out.cell 1 1 (w.heap.size + 1) _ _ _ rfl rfl rfl
    have lG2_0 := HG2w7.out.lt 0 w1.heap.size (by simp) rfl
    have cG2_0_0 := HG2w7.out.cell 0 0 w1.heap.size _ _ _ rfl rfl rfl
    have cG2_0_1 := HG2w7.out.cell 0 1 w1.heap.size _ _ _ rfl rfl rfl
    have cG2_0_2 := HG2w7.out.cell 0 2 w1.heap.size _ _ _ rfl rfl rfl
    have cG2_0_3 := HG2w7.out.cell 0 3 w1.heap.size _ _ _ rfl rfl rfl
    have cG2_0_4 := HG2w7.out.cell 0 4 w1.heap.size _ _ _ rfl rfl rfl
    have cG2_0_5 := HG2w7.out.cell 0 5 w1.heap.size _ _ _ rfl rfl rfl
    have cG2_0_6 := HG2w7.out.cell 0 6 w1.heap.size _ _ _ rfl rfl rfl
    have cG2_0_7 := HG2w7.out.cell 0 7 w1.heap.size _ _ _ rfl rfl rfl
    have lG3_0 := HG3w7.out.lt 0 w4.heap.size (by simp) rfl
    have cG3_0_0 := HG3w7.out.cell 0 0 w4.heap.size _ _ _ rfl rfl rfl
    have cG3_0_1 := HG3w7.out.cell 0 1 w4.heap.size _ _ _ rfl rfl rfl
    have cG3_0_2 := HG3w7.out.cell 0 2 w4.heap.size _ _ _ rfl rfl rfl
    have cG3_0_3 := HG3w7.out.cell 0 3 w4.heap.size _ _ _ rfl rfl rfl
    have cG3_0_4 := HG3w7.out.cell 0 4 w4.heap.size _ _ _ rfl rfl rfl
    have cG3_0_5 := HG3w7.out.cell 0 5 w4.heap.size _ _ _ rfl rfl rfl
    have cG3_0_6 := HG3w7.out.cell 0 6 w4.heap.size _ _ _ rfl rfl rfl
    have cG3_0_7 := HG3w7.out.cell 0 7 w4.heap.size _ _ _ rfl rfl rfl
    go_wp2_with fail
    go_ret
    exact ⟨rfl, HG1w7.out.2.2⟩
  · have HS := hide (fun W (h : TapsAt W oa P) (h' : IntsAt W od D) (h'' : IntsAt W od' D') => gateSync_err i z s oa P ca v od D cd l u v' od' D' cd' m W h h' h'' hlD hlD' hE)
    have hE' : (syncG i z s P v D l u v' D' m != 0) = true := by simpa using hE
    generalize syncG i z s P v D l u v' D' m = E at *
    clear hE hlP
    go_enter Try.func4, Try.ntmps4
    go_wp2_with fail
    have HG1 := hide (((Blks.nil w).more (.cells #[.int .i64 i, .int .i64 z, .int .i64 s, .slice oa P.length ca, .int .i64 v, .slice od D.length cd, .int .i64 l, .int .i64 u] 29) (by simp)).more (.cells #[.int .i64 v', .slice od' D'.length cd'] 25) (by simp))
    refine (HS.out _ (HP.out.below HG1.out.2.2) (HD.out.below HG1.out.2.2) (HD'.out.below HG1.out.2.2)).mono ?_
    rintro e w1 ⟨rfl, hb⟩
    have HG1w1 := hide (HG1.out.on hb)
    clear hb HG1
    have lG1_0 := HG1w1.out.lt 0 w.heap.size (by simp) rfl
    have cG1_0_0 := HG1w1.out.cell 0 0 w.heap.size _ _ _ rfl rfl rfl
    have cG1_0_1 := HG1w1.out.cell 0 1 w.heap.size _ _ _ rfl rfl rfl
    have cG1_0_2 := HG1w1.out.cell 0 2 w.heap.size _ _ _ rfl rfl rfl
    have cG1_0_3 := HG1w1.out.cell 0 3 w.heap.size _ _ _ rfl rfl rfl
    have cG1_0_4 := HG1w1.out.cell 0 4 w.heap.size _ _ _ rfl rfl rfl
    have cG1_0_5 := HG1w1.out.cell 0 5 w.heap.size _ _ _ rfl rfl rfl
    have cG1_0_6 := HG1w1.out.cell 0 6 w.heap.size _ _ _ rfl rfl rfl
    have cG1_0_7 := HG1w1.out.cell 0 7 w.heap.size _ _ _ rfl rfl rfl
    have lG1_1 := HG1w1.out.lt 1 (w.heap.size + 1) (by simp) rfl
    have cG1_1_0 := HG1w1.out.cell 1 0 (w.heap.size + 1) _ _ _ rfl rfl rfl
    have cG1_1_1 := HG1w1.out.cell 1 1 (w.heap.size + 1) _ _ _ rfl rfl rfl
    go_wp2_with fail
    have HG2 := hide ((Blks.nil w1).more (.cells #[.int .i64 0, .int .i64 0, .int .i64 0, .slice none 0 0, .int .i64 0, .slice none 0 0, .int .i64 0, .int .i64 0] 29) (by simp))
    refine (gateBegun_any _).mono ?_
    rintro e w2 ⟨rfl, hb⟩
    have HG2w2 := hide (HG2.out.on hb)
    have HG1w2 := hide (HG1w1.out.on HG2w2.out.2.2)
    clear lG1_0 cG1_0_0 cG1_0_1 cG1_0_2 cG1_0_3 cG1_0_4 cG1_0_5 cG1_0_6 cG1_0_7 lG1_1 cG1_1_0 cG1_1_1
    clear hb HG1w1 HG2
    have lG1_0 := HG1w2.out.lt 0 w.heap.size (by simp) rfl
    have cG1_0_0 := HG1w2.out.cell 0 0 w.heap.size _ _ _ rfl rfl rfl
    have cG1_0_1 := HG1w2.out.cell 0 1 w.heap.size _ _ _ rfl rfl rfl
    have cG1_0_2 := HG1w2.out.cell 0 2 w.heap.size _ _ _ rfl rfl rfl
    have cG1_0_3 := HG1w2.out.cell 0 3 w.heap.size _ _ _ rfl rfl rfl
    have cG1_0_4 := HG1w2.out.cell 0 4 w.heap.size _ _ _ rfl rfl rfl
    have cG1_0_5 := HG1w2.out.cell 0 5 w.heap.size _ _ _ rfl rfl rfl
    have cG1_0_6 := HG1w2.out.cell 0 6 w.heap.size _ _ _ rfl rfl rfl
    have cG1_0_7 := HG1w2.out.cell 0 7 w.heap.size _ _ _ rfl rfl rfl
    have lG1_1 := HG1w2.out.lt 1 (w.heap.size + 1) (by simp) rfl
    have cG1_1_0 := HG1w2.out.cell 1 0 (w.heap.size + 1) _ _ _ rfl rfl rfl
    have cG1_1_1 := HG1w2.out.cell 1 1 (w.heap.size + 1) _ _ _ rfl rfl rfl
    have lG2_0 := HG2w2.out.lt 0 w1.heap.size (by simp) rfl
    have cG2_0_0 := HG2w2.out.cell 0 0 w1.heap.size _ _ _ rfl rfl rfl
    have cG2_0_1 := HG2w2.out.cell 0 1 w1.heap.size _ _ _ rfl rfl rfl
    have cG2_0_2 := HG2w2.out.cell 0 2 w1.heap.size _ _ _ rfl rfl rfl
    have cG2_0_3 := HG2w2.out.cell 0 3 w1.heap.size _ _ _ rfl rfl rfl
    have cG2_0_4 := HG2w2.out.cell 0 4 w1.heap.size _ _ _ rfl rfl rfl
    have cG2_0_5 := HG2w2.out.cell 0 5 w1.heap.size _ _ _ rfl rfl rfl
    have cG2_0_6 := HG2w2.out.cell 0 6 w1.heap.size _ _ _ rfl rfl rfl
    have cG2_0_7 := HG2w2.out.cell 0 7 w1.heap.size _ _ _ rfl rfl rfl
    go_wp2_with fail
    refine (deniedBegun_any _).mono ?_
    rintro e w3 ⟨rfl, hb⟩
    have HG1w3 := hide (HG1w2.out.on hb)
    have HG2w3 := hide (HG2w2.out.on hb)
    clear lG1_0 cG1_0_0 cG1_0_1 cG1_0_2 cG1_0_3 cG1_0_4 cG1_0_5 cG1_0_6 cG1_0_7 lG1_1 cG1_1_0 cG1_1_1 lG2_0 cG2_0_0 cG2_0_1 cG2_0_2 cG2_0_3 cG2_0_4 cG2_0_5 cG2_0_6 cG2_0_7
    clear hb HG1w2 HG2w2
    have lG1_0 := HG1w3.out.lt 0 w.heap.size (by simp) rfl
    have cG1_0_0 := HG1w3.out.cell 0 0 w.heap.size _ _ _ rfl rfl rfl
    have cG1_0_1 := HG1w3.out.cell 0 1 w.heap.size _ _ _ rfl rfl rfl
    have cG1_0_2 := HG1w3.out.cell 0 2 w.heap.size _ _ _ rfl rfl rfl
    have cG1_0_3 := HG1w3.out.cell 0 3 w.heap.size _ _ _ rfl rfl rfl
    have cG1_0_4 := HG1w3.out.cell 0 4 w.heap.size _ _ _ rfl rfl rfl
    have cG1_0_5 := HG1w3.out.cell 0 5 w.heap.size _ _ _ rfl rfl rfl
    have cG1_0_6 := HG1w3.out.cell 0 6 w.heap.size _ _ _ rfl rfl rfl
    have cG1_0_7 := HG1w3.out.cell 0 7 w.heap.size _ _ _ rfl rfl rfl
    have lG1_1 := HG1w3.out.lt 1 (w.heap.size + 1) (by simp) rfl
    have cG1_1_0 := HG1w3.out.cell 1 0 (w.heap.size + 1) _ _ _ rfl rfl rfl
    have cG1_1_1 := HG1w3.out.cell 1 1 (w.heap.size + 1) _ _ _ rfl rfl rfl
    have lG2_0 := HG2w3.out.lt 0 w1.heap.size (by simp) rfl
    have cG2_0_0 := HG2w3.out.cell 0 0 w1.heap.size _ _ _ rfl rfl rfl
    have cG2_0_1 := HG2w3.out.cell 0 1 w1.heap.size _ _ _ rfl rfl rfl
    have cG2_0_2 := HG2w3.out.cell 0 2 w1.heap.size _ _ _ rfl rfl rfl
    have cG2_0_3 := HG2w3.out.cell 0 3 w1.heap.size _ _ _ rfl rfl rfl
    have cG2_0_4 := HG2w3.out.cell 0 4 w1.heap.size _ _ _ rfl rfl rfl
    have cG2_0_5 := HG2w3.out.cell 0 5 w1.heap.size _ _ _ rfl rfl rfl
    have cG2_0_6 := HG2w3.out.cell 0 6 w1.heap.size _ _ _ rfl rfl rfl
    have cG2_0_7 := HG2w3.out.cell 0 7 w1.heap.size _ _ _ rfl rfl rfl
    go_wp2_with fail
    go_ret
    exact ⟨rfl, HG1w3.out.2.2⟩
end Go.Proofs.Ytcakfmpckbmdead
