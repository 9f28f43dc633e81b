/-
  'DenyOf' with an error (the document's answer); the walk of DeniedTells.
-/
import Derived.Test.YtcakfmpckbmdeacN12
import Derived.Test.YtcakfmpckbmdeacO3
import Derived.Test.YtcakfmpckbmdeacJ5
namespace Go.Proofs.Ytcakfmpckbmdeac
open Go.RowKit

set_option maxHeartbeats 1600000 in
theorem denyOf_err (v id : Int) (L : List Int) (o : Option Addr) (cap : Nat) (w : World) (hL : IntsAt w o L) (hlen : L.length ≤ 9223372036854775807) (hc : chkD v L = 0) (hE : addE v L id ≠ 0) :
    Calls Try.prog 20 #[dn v o L.length cap, .int .i64 id] w fun e w' => e = .returned (.tuple #[dn 0 none 0 0, .int .i64 (addE v L id)]) ∧ Below w.heap.size w w' := by
  have HI := hide (fun W (h : IntsAt W o L) => hasInt_any L id o cap W h hlen)
  have HB := hide (((Blks.nil w).more (.cells #[.int .i64 v, .slice o L.length cap] 45) (by simp)).more (.cells #[.int .i64 0, .slice none 0 0] 45) (by simp))
  have HL := hide hL
  have hA := addE_of hc id
  generalize addE v L id = E at *
  have hp : (wi id 1 9999 = false ∧ E = 3) ∨ (wi id 1 9999 = true ∧ hasI L id = true ∧ E = 6) ∨ (wi id 1 9999 = true ∧ hasI L id = false ∧ ((L.length : Int) == 12) = true ∧ E = 2) ∨ (wi id 1 9999 = true ∧ hasI L id = false ∧ ((L.length : Int) == 12) = false ∧ (v == 999) = true ∧ E = 2) := by
    rw [fullD] at hA
    cases h1 : wi id 1 9999
    · rw [h1] at hA; simp at hA; simp [hA]
    · cases h2 : hasI L id
      · cases h3 : ((L.length : Int) == 12)
        · cases h4 : (v == 999)
          · rw [h1, h2, h3, h4] at hA; simp at hA; exact absurd hA hE
          · rw [h1, h2, h3, h4] at hA; simp at hA; simp [hA]
        · rw [h1, h2, h3] at hA; simp at hA; simp [hA]
      · rw [h1, h2] at hA; simp at hA; simp [hA]
  clear hA hE hc hL
  generalize hasI L id = Y at *
  rcases hp with ⟨h1, rfl⟩ | ⟨h1, rfl, rfl⟩ | ⟨h1, rfl, h3, rfl⟩ | ⟨h1, rfl, h3, h4, rfl⟩
  all_goals
    go_enter Try.func20, Try.ntmps20
    go_wp2_with first
      | (go_at_call 60; refine (between_any _ _ _ _).mono ?_; rintro e w' ⟨rfl, rfl⟩; rw [h1])
      | (go_at_call 25; refine (HI.out _ (HL.out.below HB.out.2.2)).mono ?_; rintro e w' ⟨rfl, rfl⟩)
    refine bodyPost_ret (v := .tuple #[dn 0 none 0 0, .int .i64 _]) (by simp [results, Try.results20, go_sem]) rfl ⟨rfl, ?_⟩
    exact HB.out.2.2

theorem addE_bad {v : Int} {L : List Int} (h : chkD v L ≠ 0) (id : Int) : addE v L id = chkD v L ∧ unfD v L id = chkD v L := by
  have hu : unfD v L id = chkD v L := by rw [unfD, if_neg h]
  exact ⟨by rw [addE, hu, if_neg h], hu⟩

set_option maxHeartbeats 6400000 in
theorem deniedTells_walk (va : Int) (oa : Option Addr) (La : List Int) (ca : Nat) (vb : Int) (ob : Option Addr) (Lb : List Int) (cb : Nat) (id : Int) (w : World) (ha : IntsOk w oa La ca) (hb : IntsOk w ob Lb cb) :
    Calls Try.prog 5 #[dn va oa La.length ca, dn vb ob Lb.length cb, .int .i64 id] w fun e w' => e = .returned (.bool true) ∧ Below w.heap.size w w' := by
  obtain ⟨hA, hla, hca, hna⟩ := ha
  obtain ⟨hB, hlb, hcb, hnb⟩ := hb
  have HLa := hide hA
  have HLb := hide hB
  have HA := hide (fun W (h : IntsAt W oa La) => add_any va id La oa ca W h hla hca hna)
  have HN := hide (fun W (h : IntsAt W oa La) (h' : IntsAt W ob Lb) => newer_any va vb La Lb oa ob ca cb W h h' hla hlb)
  have HH := hide (fun W (h : IntsAt W oa La) => has_any va id La oa ca W h hla)
  have HCa := hide (fun W (h : IntsAt W oa La) => checkDenied_any va La oa ca W h hla)
  have HCb := hide (fun W (h : IntsAt W ob Lb) => checkDenied_any vb Lb ob cb W h hlb)
  have HC := hide (fun W (h : IntsAt W oa La) => denCheck_any va La oa ca W h hla)
  have HI := hide (fun W (h : IntsAt W oa La) => hasInt_any La id oa ca W h hla)
  clear hA hB hcb hnb
  by_cases hU : chkD va La = 0
  · have hF : newE va La vb Lb = chkD vb Lb := by rw [newE, if_pos hU]
    have hG := unfD_of hU id
    have hl12 := (chkD_right hU).2.2.1
    have HE1 := hide (fun W (h : IntsAt W oa La) (h0 : addE va La id ≠ 0) => denyOf_err va id La oa ca W h hla hU h0)
    have HE0 := hide (fun W (h : IntsAt W oa La) (h0 : addE va La id = 0) => denyOf_ok va id La oa ca W h hna h0)
    have HW := hide (fun W => newerOf_any va vb oa ob La.length ca Lb.length cb W)
    have HM : Hid (addE va La id = 0 → (addI La id).length ≤ 100) := fun h => by rw [addI_len]; omega
    have HNl : Hid (chkD vb Lb = 0 → (if va < vb then Lb else La).length ≤ 100) := fun h => by
      have := (chkD_right h).2.2.1
      split <;> omega
    rw [hF] at HN
    rw [hG] at HH
    rw [hU] at HCa HC
    have hEs := addE_of hU id
    have hp : ((id < 1 ∧ wi id 1 9999 = false) ∨ (¬ id < 1 ∧ 9999 < id ∧ wi id 1 9999 = false) ∨ (¬ id < 1 ∧ ¬ 9999 < id ∧ wi id 1 9999 = true)) := by
      by_cases h1 : id < 1
      · left; exact ⟨h1, by rw [Bool.eq_false_iff]; intro h; have := (wi_iff _ _ _).1 h; omega⟩
      · by_cases h2 : 9999 < id
        · right; left; exact ⟨h1, h2, by rw [Bool.eq_false_iff]; intro h; have := (wi_iff _ _ _).1 h; omega⟩
        · right; right; exact ⟨h1, h2, (wi_iff _ _ _).2 ⟨by omega, by omega⟩⟩
    clear hF hG hl12 hU hca hna hla hlb
    rcases hp with ⟨h1, hw⟩ | ⟨h1, h2, hw⟩ | ⟨h1, h2, hw⟩
    · rw [hw, if_pos rfl] at hEs
      rw [hw, if_neg (by decide), decide_eq_false (by decide), Bool.false_and] at HH
      rw [hEs, if_neg (by decide), if_neg (by decide)] at HA
      rw [hEs] at HE1
      clear hEs hw HE0
      by_cases hub : chkD vb Lb = 0
      · have hNl := HNl.out hub
        rw [hub, if_pos rfl, if_pos rfl] at HN
        rw [hub] at HCb
        by_cases hlt : va < vb
        · rw [if_pos hlt, if_pos hlt] at HN
          rw [if_pos hlt] at HW hNl
          have HDy := hide (fun W o o' c c' (h : IntsAt W o Lb) (h' : IntsAt W o' Lb) => deniedIs_ok vb Lb o o' c c' W h h' hNl)
          clear hlt hub hNl HNl HM
          go_enter Try.func5, Try.ntmps5
          go_wp2_with fail
          have HG1 := hide (((Blks.nil w).more (.cells #[.int .i64 va, .slice oa La.length ca] 45) (by simp)).more (.cells #[.int .i64 vb, .slice ob Lb.length cb] 45) (by simp))
          refine (HA.out _ (HLa.out.below HG1.out.2.2)).mono ?_
          rintro e w1 ⟨⟨x, rfl, ⟨-, rfl, ox, cx, rfl, hx⟩⟩, hb⟩
          have HG1w1 := hide (HG1.out.on hb)
          have HX := hide hx.1
          clear hx
          clear hb HG1
          have lG1_0 := HG1w1.out.lt 0 w.heap.size (by simp) rfl
          have cG1_0_0 := HG1w1.out.cell 0 0 w.heap.size _ _ _ rfl rfl rfl
          have cG1_0_1 := HG1w1.out.cell 0 1 w.heap.size _ _ _ rfl rfl rfl
          have lG1_1 := HG1w1.out.lt 1 (w.heap.size + 1) (by simp) rfl
          have cG1_1_0 := HG1w1.out.cell 1 0 (w.heap.size + 1) _ _ _ rfl rfl rfl
          have cG1_1_1 := HG1w1.out.cell 1 1 (w.heap.size + 1) _ _ _ rfl rfl rfl
          go_wp2_with fail
          have HX := hide ((Blks.nil w1).more (.cells #[.int .i64 0, .slice ox 0 cx] 45) (by simp))
          refine (HN.out _ (HLa.out.below (HG1w1.out.on HX.out.2.2).2.2) (HLb.out.below (HG1w1.out.on HX.out.2.2).2.2)).mono ?_
          rintro e w2 ⟨⟨x, rfl, ⟨-, rfl, on, cn, rfl, hx⟩⟩, hb⟩
          have HXw2 := hide (HX.out.on hb)
          have HG1w2 := hide (HG1w1.out.on HXw2.out.2.2)
          have HY := hide hx.1
          clear hx
          clear lG1_0 cG1_0_0 cG1_0_1 lG1_1 cG1_1_0 cG1_1_1
          clear hb HG1w1 HX
          have lG1_0 := HG1w2.out.lt 0 w.heap.size (by simp) rfl
          have cG1_0_0 := HG1w2.out.cell 0 0 w.heap.size _ _ _ rfl rfl rfl
          have cG1_0_1 := HG1w2.out.cell 0 1 w.heap.size _ _ _ rfl rfl rfl
          have lG1_1 := HG1w2.out.lt 1 (w.heap.size + 1) (by simp) rfl
          have cG1_1_0 := HG1w2.out.cell 1 0 (w.heap.size + 1) _ _ _ rfl rfl rfl
          have cG1_1_1 := HG1w2.out.cell 1 1 (w.heap.size + 1) _ _ _ rfl rfl rfl
          have lX_0 := HXw2.out.lt 0 w1.heap.size (by simp) rfl
          have cX_0_0 := HXw2.out.cell 0 0 w1.heap.size _ _ _ rfl rfl rfl
          have cX_0_1 := HXw2.out.cell 0 1 w1.heap.size _ _ _ rfl rfl rfl
          go_wp2_with fail
          have HY := hide ((Blks.nil w2).more (.cells #[.int .i64 vb, .slice on Lb.length cn] 45) (by simp))
          refine (HH.out _ (HLa.out.below (HG1w2.out.on HY.out.2.2).2.2)).mono ?_
          rintro e w3 ⟨rfl, hb⟩
          have HYw3 := hide (HY.out.on hb)
          have HG1w3 := hide (HG1w2.out.on HYw3.out.2.2)
          have HXw3 := hide (HXw2.out.on HYw3.out.2.2)
          clear lG1_0 cG1_0_0 cG1_0_1 lG1_1 cG1_1_0 cG1_1_1 lX_0 cX_0_0 cX_0_1
          clear hb HG1w2 HXw2 HY
          have lG1_0 := HG1w3.out.lt 0 w.heap.size (by simp) rfl
          have cG1_0_0 := HG1w3.out.cell 0 0 w.heap.size _ _ _ rfl rfl rfl
          have cG1_0_1 := HG1w3.out.cell 0 1 w.heap.size _ _ _ rfl rfl rfl
          have lG1_1 := HG1w3.out.lt 1 (w.heap.size + 1) (by simp) rfl
          have cG1_1_0 := HG1w3.out.cell 1 0 (w.heap.size + 1) _ _ _ rfl rfl rfl
          have cG1_1_1 := HG1w3.out.cell 1 1 (w.heap.size + 1) _ _ _ rfl rfl rfl
          have lX_0 := HXw3.out.lt 0 w1.heap.size (by simp) rfl
          have cX_0_0 := HXw3.out.cell 0 0 w1.heap.size _ _ _ rfl rfl rfl
          have cX_0_1 := HXw3.out.cell 0 1 w1.heap.size _ _ _ rfl rfl rfl
          have lY_0 := HYw3.out.lt 0 w2.heap.size (by simp) rfl
          have cY_0_0 := HYw3.out.cell 0 0 w2.heap.size _ _ _ rfl rfl rfl
          have cY_0_1 := HYw3.out.cell 0 1 w2.heap.size _ _ _ rfl rfl rfl
          go_wp2_with fail
          refine (HCa.out _ (HLa.out.below HG1w3.out.2.2)).mono ?_
          rintro e w4 ⟨rfl, hb⟩
          have HG1w4 := hide (HG1w3.out.on hb)
          have HXw4 := hide (HXw3.out.on hb)
          have HYw4 := hide (HYw3.out.on hb)
          clear lG1_0 cG1_0_0 cG1_0_1 lG1_1 cG1_1_0 cG1_1_1 lX_0 cX_0_0 cX_0_1 lY_0 cY_0_0 cY_0_1
          clear hb HG1w3 HXw3 HYw3
          have lG1_0 := HG1w4.out.lt 0 w.heap.size (by simp) rfl
          have cG1_0_0 := HG1w4.out.cell 0 0 w.heap.size _ _ _ rfl rfl rfl
          have cG1_0_1 := HG1w4.out.cell 0 1 w.heap.size _ _ _ rfl rfl rfl
          have lG1_1 := HG1w4.out.lt 1 (w.heap.size + 1) (by simp) rfl
          have cG1_1_0 := HG1w4.out.cell 1 0 (w.heap.size + 1) _ _ _ rfl rfl rfl
          have cG1_1_1 := HG1w4.out.cell 1 1 (w.heap.size + 1) _ _ _ rfl rfl rfl
          have lX_0 := HXw4.out.lt 0 w1.heap.size (by simp) rfl
          have cX_0_0 := HXw4.out.cell 0 0 w1.heap.size _ _ _ rfl rfl rfl
          have cX_0_1 := HXw4.out.cell 0 1 w1.heap.size _ _ _ rfl rfl rfl
          have lY_0 := HYw4.out.lt 0 w2.heap.size (by simp) rfl
          have cY_0_0 := HYw4.out.cell 0 0 w2.heap.size _ _ _ rfl rfl rfl
          have cY_0_1 := HYw4.out.cell 0 1 w2.heap.size _ _ _ rfl rfl rfl
          go_wp2_with fail
          clear lG1_0 cG1_0_0 cG1_0_1 lG1_1 cG1_1_0 cG1_1_1 lX_0 cX_0_0 cX_0_1 lY_0 cY_0_0 cY_0_1
          have zG1 := HG1w4.out.2.1
          simp only [List.length_append, List.length_cons, List.length_nil] at zG1
          have zX := HXw4.out.2.1
          simp only [List.length_append, List.length_cons, List.length_nil] at zX
          have zY := HYw4.out.2.1
          simp only [List.length_append, List.length_cons, List.length_nil] at zY
          have HM := hide (((Blks.nil w4).more (.cells #[.int .i64 0, .slice none 0 0] 45) (by simp)).more (.cells #[.int .i64 0, .slice none 0 0] 45) (by simp))
          refine (HE1.out _ (HLa.out.below (HG1w4.out.on HM.out.2.2).2.2) (by decide)).mono ?_
          rintro e w5 ⟨rfl, hb⟩
          have HMw5 := hide (HM.out.on hb)
          have HG1w5 := hide (HG1w4.out.on HMw5.out.2.2)
          have HXw5 := hide (HXw4.out.on HMw5.out.2.2)
          have HYw5 := hide (HYw4.out.on HMw5.out.2.2)
          clear hb HG1w4 HXw4 HYw4 HM
          have lG1_0 := HG1w5.out.lt 0 w.heap.size (by simp) rfl
          have cG1_0_0 := HG1w5.out.cell 0 0 w.heap.size _ _ _ rfl rfl rfl
          have cG1_0_1 := HG1w5.out.cell 0 1 w.heap.size _ _ _ rfl rfl rfl
          have lG1_1 := HG1w5.out.lt 1 (w.heap.size + 1) (by simp) rfl
          have cG1_1_0 := HG1w5.out.cell 1 0 (w.heap.size + 1) _ _ _ rfl rfl rfl
          have cG1_1_1 := HG1w5.out.cell 1 1 (w.heap.size + 1) _ _ _ rfl rfl rfl
          have lX_0 := HXw5.out.lt 0 w1.heap.size (by simp) rfl
          have cX_0_0 := HXw5.out.cell 0 0 w1.heap.size _ _ _ rfl rfl rfl
          have cX_0_1 := HXw5.out.cell 0 1 w1.heap.size _ _ _ rfl rfl rfl
          have lY_0 := HYw5.out.lt 0 w2.heap.size (by simp) rfl
          have cY_0_0 := HYw5.out.cell 0 0 w2.heap.size _ _ _ rfl rfl rfl
          have cY_0_1 := HYw5.out.cell 0 1 w2.heap.size _ _ _ rfl rfl rfl
          have lM_0 := HMw5.out.lt 0 w4.heap.size (by simp) rfl
          have cM_0_0 := HMw5.out.cell 0 0 w4.heap.size _ _ _ rfl rfl rfl
          have fM_0_0 := HMw5.out.frozen 0 0 w4.heap.size _ _ rfl rfl
          have cM_0_1 := HMw5.out.cell 0 1 w4.heap.size _ _ _ rfl rfl rfl
          have fM_0_1 := HMw5.out.frozen 0 1 w4.heap.size _ _ rfl rfl
          have lM_1 := HMw5.out.lt 1 (w4.heap.size + 1) (by simp) rfl
          have cM_1_0 := HMw5.out.cell 1 0 (w4.heap.size + 1) _ _ _ rfl rfl rfl
          have fM_1_0 := HMw5.out.frozen 1 0 (w4.heap.size + 1) _ _ rfl rfl
          have cM_1_1 := HMw5.out.cell 1 1 (w4.heap.size + 1) _ _ _ rfl rfl rfl
          have fM_1_1 := HMw5.out.frozen 1 1 (w4.heap.size + 1) _ _ rfl rfl
          go_wp2_with fail
          clear lG1_0 cG1_0_0 cG1_0_1 lG1_1 cG1_1_0 cG1_1_1 lX_0 cX_0_0 cX_0_1 lY_0 cY_0_0 cY_0_1 lM_0 cM_0_0 fM_0_0 cM_0_1 fM_0_1 lM_1 cM_1_0 fM_1_0 cM_1_1 fM_1_1
          have HG1w5s := hide ((HG1w5.out.set ⟨w4.heap.size, 0, none⟩ (by simp; try omega) (.int .i64 0)).set ⟨w4.heap.size, 1, none⟩ (by simp; try omega) (.slice none 0 0))
          have HXw5s := hide ((HXw5.out.set ⟨w4.heap.size, 0, none⟩ (by simp; try omega) (.int .i64 0)).set ⟨w4.heap.size, 1, none⟩ (by simp; try omega) (.slice none 0 0))
          have HYw5s := hide ((HYw5.out.set ⟨w4.heap.size, 0, none⟩ (by simp; try omega) (.int .i64 0)).set ⟨w4.heap.size, 1, none⟩ (by simp; try omega) (.slice none 0 0))
          have HMw5s : Hid (Blks w4 ((w5.setCell ⟨w4.heap.size, 0, none⟩ (.int .i64 0)).setCell ⟨w4.heap.size, 1, none⟩ (.slice none 0 0)) [.cells #[.int .i64 0, .slice none 0 0] 45, .cells #[.int .i64 0, .slice none 0 0] 45]) := hide ((HMw5.out.put 0 0 w4.heap.size _ _ (.int .i64 0) rfl rfl).put 0 1 w4.heap.size _ _ (.slice none 0 0) rfl rfl)
          clear HG1w5 HXw5 HYw5 HMw5
          generalize ((w5.setCell ⟨w4.heap.size, 0, none⟩ (.int .i64 0)).setCell ⟨w4.heap.size, 1, none⟩ (.slice none 0 0)) = w5s at *
          refine (HCb.out _ (HLb.out.below HG1w5s.out.2.2)).mono ?_
          rintro e w6 ⟨rfl, hb⟩
          have HG1w6 := hide (HG1w5s.out.on hb)
          have HXw6 := hide (HXw5s.out.on hb)
          have HYw6 := hide (HYw5s.out.on hb)
          have HMw6 := hide (HMw5s.out.on hb)
          clear hb HG1w5s HXw5s HYw5s HMw5s
          have lG1_0 := HG1w6.out.lt 0 w.heap.size (by simp) rfl
          have cG1_0_0 := HG1w6.out.cell 0 0 w.heap.size _ _ _ rfl rfl rfl
          have cG1_0_1 := HG1w6.out.cell 0 1 w.heap.size _ _ _ rfl rfl rfl
          have lG1_1 := HG1w6.out.lt 1 (w.heap.size + 1) (by simp) rfl
          have cG1_1_0 := HG1w6.out.cell 1 0 (w.heap.size + 1) _ _ _ rfl rfl rfl
          have cG1_1_1 := HG1w6.out.cell 1 1 (w.heap.size + 1) _ _ _ rfl rfl rfl
          have lX_0 := HXw6.out.lt 0 w1.heap.size (by simp) rfl
          have cX_0_0 := HXw6.out.cell 0 0 w1.heap.size _ _ _ rfl rfl rfl
          have cX_0_1 := HXw6.out.cell 0 1 w1.heap.size _ _ _ rfl rfl rfl
          have lY_0 := HYw6.out.lt 0 w2.heap.size (by simp) rfl
          have cY_0_0 := HYw6.out.cell 0 0 w2.heap.size _ _ _ rfl rfl rfl
          have cY_0_1 := HYw6.out.cell 0 1 w2.heap.size _ _ _ rfl rfl rfl
          have lM_0 := HMw6.out.lt 0 w4.heap.size (by simp) rfl
          have cM_0_0 := HMw6.out.cell 0 0 w4.heap.size _ _ _ rfl rfl rfl
          have cM_0_1 := HMw6.out.cell 0 1 w4.heap.size _ _ _ rfl rfl rfl
          have lM_1 := HMw6.out.lt 1 (w4.heap.size + 1) (by simp) rfl
          have cM_1_0 := HMw6.out.cell 1 0 (w4.heap.size + 1) _ _ _ rfl rfl rfl
          have fM_1_0 := HMw6.out.frozen 1 0 (w4.heap.size + 1) _ _ rfl rfl
          have cM_1_1 := HMw6.out.cell 1 1 (w4.heap.size + 1) _ _ _ rfl rfl rfl
          have fM_1_1 := HMw6.out.frozen 1 1 (w4.heap.size + 1) _ _ rfl rfl
          go_wp2_with fail
          refine (HW.out _).mono ?_
          rintro e w7 ⟨rfl, hb⟩
          have HG1w7 := hide (HG1w6.out.on hb)
          have HXw7 := hide (HXw6.out.on hb)
          have HYw7 := hide (HYw6.out.on hb)
          have HMw7 := hide (HMw6.out.on hb)
          clear lG1_0 cG1_0_0 cG1_0_1 lG1_1 cG1_1_0 cG1_1_1 lX_0 cX_0_0 cX_0_1 lY_0 cY_0_0 cY_0_1 lM_0 cM_0_0 cM_0_1 lM_1 cM_1_0 fM_1_0 cM_1_1 fM_1_1
          clear hb HG1w6 HXw6 HYw6 HMw6
          have lG1_0 := HG1w7.out.lt 0 w.heap.size (by simp) rfl
          have cG1_0_0 := HG1w7.out.cell 0 0 w.heap.size _ _ _ rfl rfl rfl
          have cG1_0_1 := HG1w7.out.cell 0 1 w.heap.size _ _ _ rfl rfl rfl
          have lG1_1 := HG1w7.out.lt 1 (w.heap.size + 1) (by simp) rfl
          have cG1_1_0 := HG1w7.out.cell 1 0 (w.heap.size + 1) _ _ _ rfl rfl rfl
          have cG1_1_1 := HG1w7.out.cell 1 1 (w.heap.size + 1) _ _ _ rfl rfl rfl
          have lX_0 := HXw7.out.lt 0 w1.heap.size (by simp) rfl
          have cX_0_0 := HXw7.out.cell 0 0 w1.heap.size _ _ _ rfl rfl rfl
          have cX_0_1 := HXw7.out.cell 0 1 w1.heap.size _ _ _ rfl rfl rfl
          have lY_0 := HYw7.out.lt 0 w2.heap.size (by simp) rfl
          have cY_0_0 := HYw7.out.cell 0 0 w2.heap.size _ _ _ rfl rfl rfl
          have cY_0_1 := HYw7.out.cell 0 1 w2.heap.size _ _ _ rfl rfl rfl
          have lM_0 := HMw7.out.lt 0 w4.heap.size (by simp) rfl
          have cM_0_0 := HMw7.out.cell 0 0 w4.heap.size _ _ _ rfl rfl rfl
          have cM_0_1 := HMw7.out.cell 0 1 w4.heap.size _ _ _ rfl rfl rfl
          have lM_1 := HMw7.out.lt 1 (w4.heap.size + 1) (by simp) rfl
          have cM_1_0 := HMw7.out.cell 1 0 (w4.heap.size + 1) _ _ _ rfl rfl rfl
          have fM_1_0 := HMw7.out.frozen 1 0 (w4.heap.size + 1) _ _ rfl rfl
          have cM_1_1 := HMw7.out.cell 1 1 (w4.heap.size + 1) _ _ _ rfl rfl rfl
          have fM_1_1 := HMw7.out.frozen 1 1 (w4.heap.size + 1) _ _ rfl rfl
          go_wp2_with fail
          clear lG1_0 cG1_0_0 cG1_0_1 lG1_1 cG1_1_0 cG1_1_1 lX_0 cX_0_0 cX_0_1 lY_0 cY_0_0 cY_0_1 lM_0 cM_0_0 cM_0_1 lM_1 cM_1_0 fM_1_0 cM_1_1 fM_1_1
          have HG1w7s := hide ((HG1w7.out.set ⟨w4.heap.size + 1, 0, none⟩ (by simp; try omega) (.int .i64 vb)).set ⟨w4.heap.size + 1, 1, none⟩ (by simp; try omega) (.slice ob Lb.length cb))
          have HXw7s := hide ((HXw7.out.set ⟨w4.heap.size + 1, 0, none⟩ (by simp; try omega) (.int .i64 vb)).set ⟨w4.heap.size + 1, 1, none⟩ (by simp; try omega) (.slice ob Lb.length cb))
          have HYw7s := hide ((HYw7.out.set ⟨w4.heap.size + 1, 0, none⟩ (by simp; try omega) (.int .i64 vb)).set ⟨w4.heap.size + 1, 1, none⟩ (by simp; try omega) (.slice ob Lb.length cb))
          have HMw7s : Hid (Blks w4 ((w7.setCell ⟨w4.heap.size + 1, 0, none⟩ (.int .i64 vb)).setCell ⟨w4.heap.size + 1, 1, none⟩ (.slice ob Lb.length cb)) [.cells #[.int .i64 0, .slice none 0 0] 45, .cells #[.int .i64 vb, .slice ob Lb.length cb] 45]) := hide ((HMw7.out.put 1 0 (w4.heap.size + 1) _ _ (.int .i64 vb) rfl rfl).put 1 1 (w4.heap.size + 1) _ _ (.slice ob Lb.length cb) rfl rfl)
          clear HG1w7 HXw7 HYw7 HMw7
          generalize ((w7.setCell ⟨w4.heap.size + 1, 0, none⟩ (.int .i64 vb)).setCell ⟨w4.heap.size + 1, 1, none⟩ (.slice ob Lb.length cb)) = w7s at *
          refine (deniedBegun_any _).mono ?_
          rintro e w8 ⟨rfl, hb⟩
          have HG1w8 := hide (HG1w7s.out.on hb)
          have HXw8 := hide (HXw7s.out.on hb)
          have HYw8 := hide (HYw7s.out.on hb)
          have HMw8 := hide (HMw7s.out.on hb)
          clear hb HG1w7s HXw7s HYw7s HMw7s
          have lG1_0 := HG1w8.out.lt 0 w.heap.size (by simp) rfl
          have cG1_0_0 := HG1w8.out.cell 0 0 w.heap.size _ _ _ rfl rfl rfl
          have cG1_0_1 := HG1w8.out.cell 0 1 w.heap.size _ _ _ rfl rfl rfl
          have lG1_1 := HG1w8.out.lt 1 (w.heap.size + 1) (by simp) rfl
          have cG1_1_0 := HG1w8.out.cell 1 0 (w.heap.size + 1) _ _ _ rfl rfl rfl
          have cG1_1_1 := HG1w8.out.cell 1 1 (w.heap.size + 1) _ _ _ rfl rfl rfl
          have lX_0 := HXw8.out.lt 0 w1.heap.size (by simp) rfl
          have cX_0_0 := HXw8.out.cell 0 0 w1.heap.size _ _ _ rfl rfl rfl
          have cX_0_1 := HXw8.out.cell 0 1 w1.heap.size _ _ _ rfl rfl rfl
          have lY_0 := HYw8.out.lt 0 w2.heap.size (by simp) rfl
          have cY_0_0 := HYw8.out.cell 0 0 w2.heap.size _ _ _ rfl rfl rfl
          have cY_0_1 := HYw8.out.cell 0 1 w2.heap.size _ _ _ rfl rfl rfl
          have lM_0 := HMw8.out.lt 0 w4.heap.size (by simp) rfl
          have cM_0_0 := HMw8.out.cell 0 0 w4.heap.size _ _ _ rfl rfl rfl
          have cM_0_1 := HMw8.out.cell 0 1 w4.heap.size _ _ _ rfl rfl rfl
          have lM_1 := HMw8.out.lt 1 (w4.heap.size + 1) (by simp) rfl
          have cM_1_0 := HMw8.out.cell 1 0 (w4.heap.size + 1) _ _ _ rfl rfl rfl
          have cM_1_1 := HMw8.out.cell 1 1 (w4.heap.size + 1) _ _ _ rfl rfl rfl
          go_wp2_with fail
          refine (HC.out _ (HLa.out.below HG1w8.out.2.2)).mono ?_
          rintro e w9 ⟨rfl, hb⟩
          have HG1w9 := hide (HG1w8.out.on hb)
          have HXw9 := hide (HXw8.out.on hb)
          have HYw9 := hide (HYw8.out.on hb)
          have HMw9 := hide (HMw8.out.on hb)
          clear lG1_0 cG1_0_0 cG1_0_1 lG1_1 cG1_1_0 cG1_1_1 lX_0 cX_0_0 cX_0_1 lY_0 cY_0_0 cY_0_1 lM_0 cM_0_0 cM_0_1 lM_1 cM_1_0 cM_1_1
          clear hb HG1w8 HXw8 HYw8 HMw8
          have lG1_0 := HG1w9.out.lt 0 w.heap.size (by simp) rfl
          have cG1_0_0 := HG1w9.out.cell 0 0 w.heap.size _ _ _ rfl rfl rfl
          have cG1_0_1 := HG1w9.out.cell 0 1 w.heap.size _ _ _ rfl rfl rfl
          have lG1_1 := HG1w9.out.lt 1 (w.heap.size + 1) (by simp) rfl
          have cG1_1_0 := HG1w9.out.cell 1 0 (w.heap.size + 1) _ _ _ rfl rfl rfl
          have cG1_1_1 := HG1w9.out.cell 1 1 (w.heap.size + 1) _ _ _ rfl rfl rfl
          have lX_0 := HXw9.out.lt 0 w1.heap.size (by simp) rfl
          have cX_0_0 := HXw9.out.cell 0 0 w1.heap.size _ _ _ rfl rfl rfl
          have cX_0_1 := HXw9.out.cell 0 1 w1.heap.size _ _ _ rfl rfl rfl
          have lY_0 := HYw9.out.lt 0 w2.heap.size (by simp) rfl
          have cY_0_0 := HYw9.out.cell 0 0 w2.heap.size _ _ _ rfl rfl rfl
          have cY_0_1 := HYw9.out.cell 0 1 w2.heap.size _ _ _ rfl rfl rfl
          have lM_0 := HMw9.out.lt 0 w4.heap.size (by simp) rfl
          have cM_0_0 := HMw9.out.cell 0 0 w4.heap.size _ _ _ rfl rfl rfl
          have cM_0_1 := HMw9.out.cell 0 1 w4.heap.size _ _ _ rfl rfl rfl
          have lM_1 := HMw9.out.lt 1 (w4.heap.size + 1) (by simp) rfl
          have cM_1_0 := HMw9.out.cell 1 0 (w4.heap.size + 1) _ _ _ rfl rfl rfl
          have cM_1_1 := HMw9.out.cell 1 1 (w4.heap.size + 1) _ _ _ rfl rfl rfl
          go_wp2_with fail
          refine (deniedIs_err _ ox none cx 0 0 0 _ (by decide)).mono ?_
          rintro e w10 ⟨rfl, hb⟩
          have HG1w10 := hide (HG1w9.out.on hb)
          have HXw10 := hide (HXw9.out.on hb)
          have HYw10 := hide (HYw9.out.on hb)
          have HMw10 := hide (HMw9.out.on hb)
          clear lG1_0 cG1_0_0 cG1_0_1 lG1_1 cG1_1_0 cG1_1_1 lX_0 cX_0_0 cX_0_1 lY_0 cY_0_0 cY_0_1 lM_0 cM_0_0 cM_0_1 lM_1 cM_1_0 cM_1_1
          clear hb HG1w9 HXw9 HYw9 HMw9
          have lG1_0 := HG1w10.out.lt 0 w.heap.size (by simp) rfl
          have cG1_0_0 := HG1w10.out.cell 0 0 w.heap.size _ _ _ rfl rfl rfl
          have cG1_0_1 := HG1w10.out.cell 0 1 w.heap.size _ _ _ rfl rfl rfl
          have lG1_1 := HG1w10.out.lt 1 (w.heap.size + 1) (by simp) rfl
          have cG1_1_0 := HG1w10.out.cell 1 0 (w.heap.size + 1) _ _ _ rfl rfl rfl
          have cG1_1_1 := HG1w10.out.cell 1 1 (w.heap.size + 1) _ _ _ rfl rfl rfl
          have lX_0 := HXw10.out.lt 0 w1.heap.size (by simp) rfl
          have cX_0_0 := HXw10.out.cell 0 0 w1.heap.size _ _ _ rfl rfl rfl
          have cX_0_1 := HXw10.out.cell 0 1 w1.heap.size _ _ _ rfl rfl rfl
          have lY_0 := HYw10.out.lt 0 w2.heap.size (by simp) rfl
          have cY_0_0 := HYw10.out.cell 0 0 w2.heap.size _ _ _ rfl rfl rfl
          have cY_0_1 := HYw10.out.cell 0 1 w2.heap.size _ _ _ rfl rfl rfl
          have lM_0 := HMw10.out.lt 0 w4.heap.size (by simp) rfl
          have cM_0_0 := HMw10.out.cell 0 0 w4.heap.size _ _ _ rfl rfl rfl
          have cM_0_1 := HMw10.out.cell 0 1 w4.heap.size _ _ _ rfl rfl rfl
          have lM_1 := HMw10.out.lt 1 (w4.heap.size + 1) (by simp) rfl
          have cM_1_0 := HMw10.out.cell 1 0 (w4.heap.size + 1) _ _ _ rfl rfl rfl
          have cM_1_1 := HMw10.out.cell 1 1 (w4.heap.size + 1) _ _ _ rfl rfl rfl
          go_wp2_with fail
          refine (HDy.out _ on ob cn cb (HY.out.below HYw10.out.2.2) (HLb.out.below HG1w10.out.2.2)).mono ?_
          rintro e w11 ⟨rfl, hb⟩
          have HG1w11 := hide (HG1w10.out.on hb)
          have HXw11 := hide (HXw10.out.on hb)
          have HYw11 := hide (HYw10.out.on hb)
          have HMw11 := hide (HMw10.out.on hb)
          clear lG1_0 cG1_0_0 cG1_0_1 lG1_1 cG1_1_0 cG1_1_1 lX_0 cX_0_0 cX_0_1 lY_0 cY_0_0 cY_0_1 lM_0 cM_0_0 cM_0_1 lM_1 cM_1_0 cM_1_1
          clear hb HG1w10 HXw10 HYw10 HMw10
          have lG1_0 := HG1w11.out.lt 0 w.heap.size (by simp) rfl
          have cG1_0_0 := HG1w11.out.cell 0 0 w.heap.size _ _ _ rfl rfl rfl
          have cG1_0_1 := HG1w11.out.cell 0 1 w.heap.size _ _ _ rfl rfl rfl
          have lG1_1 := HG1w11.out.lt 1 (w.heap.size + 1) (by simp) rfl
          have cG1_1_0 := HG1w11.out.cell 1 0 (w.heap.size + 1) _ _ _ rfl rfl rfl
          have cG1_1_1 := HG1w11.out.cell 1 1 (w.heap.size + 1) _ _ _ rfl rfl rfl
          have lX_0 := HXw11.out.lt 0 w1.heap.size (by simp) rfl
          have cX_0_0 := HXw11.out.cell 0 0 w1.heap.size _ _ _ rfl rfl rfl
          have cX_0_1 := HXw11.out.cell 0 1 w1.heap.size _ _ _ rfl rfl rfl
          have lY_0 := HYw11.out.lt 0 w2.heap.size (by simp) rfl
          have cY_0_0 := HYw11.out.cell 0 0 w2.heap.size _ _ _ rfl rfl rfl
          have cY_0_1 := HYw11.out.cell 0 1 w2.heap.size _ _ _ rfl rfl rfl
          have lM_0 := HMw11.out.lt 0 w4.heap.size (by simp) rfl
          have cM_0_0 := HMw11.out.cell 0 0 w4.heap.size _ _ _ rfl rfl rfl
          have cM_0_1 := HMw11.out.cell 0 1 w4.heap.size _ _ _ rfl rfl rfl
          have lM_1 := HMw11.out.lt 1 (w4.heap.size + 1) (by simp) rfl
          have cM_1_0 := HMw11.out.cell 1 0 (w4.heap.size + 1) _ _ _ rfl rfl rfl
          have cM_1_1 := HMw11.out.cell 1 1 (w4.heap.size + 1) _ _ _ rfl rfl rfl
          go_wp2_with fail
          go_ret
          exact ⟨by first | rfl | simp, HG1w11.out.2.2⟩
        · rw [if_neg hlt, if_neg hlt] at HN
          rw [if_neg hlt] at HW hNl
          have HDy := hide (fun W o o' c c' (h : IntsAt W o La) (h' : IntsAt W o' La) => deniedIs_ok va La o o' c c' W h h' hNl)
          clear hlt hub hNl HNl HM
          go_enter Try.func5, Try.ntmps5
          go_wp2_with fail
          have HG1 := hide (((Blks.nil w).more (.cells #[.int .i64 va, .slice oa La.length ca] 45) (by simp)).more (.cells #[.int .i64 vb, .slice ob Lb.length cb] 45) (by simp))
          refine (HA.out _ (HLa.out.below HG1.out.2.2)).mono ?_
          rintro e w1 ⟨⟨x, rfl, ⟨-, rfl, ox, cx, rfl, hx⟩⟩, hb⟩
          have HG1w1 := hide (HG1.out.on hb)
          have HX := hide hx.1
          clear hx
          clear hb HG1
          have lG1_0 := HG1w1.out.lt 0 w.heap.size (by simp) rfl
          have cG1_0_0 := HG1w1.out.cell 0 0 w.heap.size _ _ _ rfl rfl rfl
          have cG1_0_1 := HG1w1.out.cell 0 1 w.heap.size _ _ _ rfl rfl rfl
          have lG1_1 := HG1w1.out.lt 1 (w.heap.size + 1) (by simp) rfl
          have cG1_1_0 := HG1w1.out.cell 1 0 (w.heap.size + 1) _ _ _ rfl rfl rfl
          have cG1_1_1 := HG1w1.out.cell 1 1 (w.heap.size + 1) _ _ _ rfl rfl rfl
          go_wp2_with fail
          have HX := hide ((Blks.nil w1).more (.cells #[.int .i64 0, .slice ox 0 cx] 45) (by simp))
          refine (HN.out _ (HLa.out.below (HG1w1.out.on HX.out.2.2).2.2) (HLb.out.below (HG1w1.out.on HX.out.2.2).2.2)).mono ?_
          rintro e w2 ⟨⟨x, rfl, ⟨-, rfl, on, cn, rfl, hx⟩⟩, hb⟩
          have HXw2 := hide (HX.out.on hb)
          have HG1w2 := hide (HG1w1.out.on HXw2.out.2.2)
          have HY := hide hx.1
          clear hx
          clear lG1_0 cG1_0_0 cG1_0_1 lG1_1 cG1_1_0 cG1_1_1
          clear hb HG1w1 HX
          have lG1_0 := HG1w2.out.lt 0 w.heap.size (by simp) rfl
          have cG1_0_0 := HG1w2.out.cell 0 0 w.heap.size _ _ _ rfl rfl rfl
          have cG1_0_1 := HG1w2.out.cell 0 1 w.heap.size _ _ _ rfl rfl rfl
          have lG1_1 := HG1w2.out.lt 1 (w.heap.size + 1) (by simp) rfl
          have cG1_1_0 := HG1w2.out.cell 1 0 (w.heap.size + 1) _ _ _ rfl rfl rfl
          have cG1_1_1 := HG1w2.out.cell 1 1 (w.heap.size + 1) _ _ _ rfl rfl rfl
          have lX_0 := HXw2.out.lt 0 w1.heap.size (by simp) rfl
          have cX_0_0 := HXw2.out.cell 0 0 w1.heap.size _ _ _ rfl rfl rfl
          have cX_0_1 := HXw2.out.cell 0 1 w1.heap.size _ _ _ rfl rfl rfl
          go_wp2_with fail
          have HY := hide ((Blks.nil w2).more (.cells #[.int .i64 va, .slice on La.length cn] 45) (by simp))
          refine (HH.out _ (HLa.out.below (HG1w2.out.on HY.out.2.2).2.2)).mono ?_
          rintro e w3 ⟨rfl, hb⟩
          have HYw3 := hide (HY.out.on hb)
          have HG1w3 := hide (HG1w2.out.on HYw3.out.2.2)
          have HXw3 := hide (HXw2.out.on HYw3.out.2.2)
          clear lG1_0 cG1_0_0 cG1_0_1 lG1_1 cG1_1_0 cG1_1_1 lX_0 cX_0_0 cX_0_1
          clear hb HG1w2 HXw2 HY
          have lG1_0 := HG1w3.out.lt 0 w.heap.size (by simp) rfl
          have cG1_0_0 := HG1w3.out.cell 0 0 w.heap.size _ _ _ rfl rfl rfl
          have cG1_0_1 := HG1w3.out.cell 0 1 w.heap.size _ _ _ rfl rfl rfl
          have lG1_1 := HG1w3.out.lt 1 (w.heap.size + 1) (by simp) rfl
          have cG1_1_0 := HG1w3.out.cell 1 0 (w.heap.size + 1) _ _ _ rfl rfl rfl
          have cG1_1_1 := HG1w3.out.cell 1 1 (w.heap.size + 1) _ _ _ rfl rfl rfl
          have lX_0 := HXw3.out.lt 0 w1.heap.size (by simp) rfl
          have cX_0_0 := HXw3.out.cell 0 0 w1.heap.size _ _ _ rfl rfl rfl
          have cX_0_1 := HXw3.out.cell 0 1 w1.heap.size _ _ _ rfl rfl rfl
          have lY_0 := HYw3.out.lt 0 w2.heap.size (by simp) rfl
          have cY_0_0 := HYw3.out.cell 0 0 w2.heap.size _ _ _ rfl rfl rfl
          have cY_0_1 := HYw3.out.cell 0 1 w2.heap.size _ _ _ rfl rfl rfl
          go_wp2_with fail
          refine (HCa.out _ (HLa.out.below HG1w3.out.2.2)).mono ?_
          rintro e w4 ⟨rfl, hb⟩
          have HG1w4 := hide (HG1w3.out.on hb)
          have HXw4 := hide (HXw3.out.on hb)
          have HYw4 := hide (HYw3.out.on hb)
          clear lG1_0 cG1_0_0 cG1_0_1 lG1_1 cG1_1_0 cG1_1_1 lX_0 cX_0_0 cX_0_1 lY_0 cY_0_0 cY_0_1
          clear hb HG1w3 HXw3 HYw3
          have lG1_0 := HG1w4.out.lt 0 w.heap.size (by simp) rfl
          have cG1_0_0 := HG1w4.out.cell 0 0 w.heap.size _ _ _ rfl rfl rfl
          have cG1_0_1 := HG1w4.out.cell 0 1 w.heap.size _ _ _ rfl rfl rfl
          have lG1_1 := HG1w4.out.lt 1 (w.heap.size + 1) (by simp) rfl
          have cG1_1_0 := HG1w4.out.cell 1 0 (w.heap.size + 1) _ _ _ rfl rfl rfl
          have cG1_1_1 := HG1w4.out.cell 1 1 (w.heap.size + 1) _ _ _ rfl rfl rfl
          have lX_0 := HXw4.out.lt 0 w1.heap.size (by simp) rfl
          have cX_0_0 := HXw4.out.cell 0 0 w1.heap.size _ _ _ rfl rfl rfl
          have cX_0_1 := HXw4.out.cell 0 1 w1.heap.size _ _ _ rfl rfl rfl
          have lY_0 := HYw4.out.lt 0 w2.heap.size (by simp) rfl
          have cY_0_0 := HYw4.out.cell 0 0 w2.heap.size _ _ _ rfl rfl rfl
          have cY_0_1 := HYw4.out.cell 0 1 w2.heap.size _ _ _ rfl rfl rfl
          go_wp2_with fail
          clear lG1_0 cG1_0_0 cG1_0_1 lG1_1 cG1_1_0 cG1_1_1 lX_0 cX_0_0 cX_0_1 lY_0 cY_0_0 cY_0_1
          have zG1 := HG1w4.out.2.1
          simp only [List.length_append, List.length_cons, List.length_nil] at zG1
          have zX := HXw4.out.2.1
          simp only [List.length_append, List.length_cons, List.length_nil] at zX
          have zY := HYw4.out.2.1
          simp only [List.length_append, List.length_cons, List.length_nil] at zY
          have HM := hide (((Blks.nil w4).more (.cells #[.int .i64 0, .slice none 0 0] 45) (by simp)).more (.cells #[.int .i64 0, .slice none 0 0] 45) (by simp))
          refine (HE1.out _ (HLa.out.below (HG1w4.out.on HM.out.2.2).2.2) (by decide)).mono ?_
          rintro e w5 ⟨rfl, hb⟩
          have HMw5 := hide (HM.out.on hb)
          have HG1w5 := hide (HG1w4.out.on HMw5.out.2.2)
          have HXw5 := hide (HXw4.out.on HMw5.out.2.2)
          have HYw5 := hide (HYw4.out.on HMw5.out.2.2)
          clear hb HG1w4 HXw4 HYw4 HM
          have lG1_0 := HG1w5.out.lt 0 w.heap.size (by simp) rfl
          have cG1_0_0 := HG1w5.out.cell 0 0 w.heap.size _ _ _ rfl rfl rfl
          have cG1_0_1 := HG1w5.out.cell 0 1 w.heap.size _ _ _ rfl rfl rfl
          have lG1_1 := HG1w5.out.lt 1 (w.heap.size + 1) (by simp) rfl
          have cG1_1_0 := HG1w5.out.cell 1 0 (w.heap.size + 1) _ _ _ rfl rfl rfl
          have cG1_1_1 := HG1w5.out.cell 1 1 (w.heap.size + 1) _ _ _ rfl rfl rfl
          have lX_0 := HXw5.out.lt 0 w1.heap.size (by simp) rfl
          have cX_0_0 := HXw5.out.cell 0 0 w1.heap.size _ _ _ rfl rfl rfl
          have cX_0_1 := HXw5.out.cell 0 1 w1.heap.size _ _ _ rfl rfl rfl
          have lY_0 := HYw5.out.lt 0 w2.heap.size (by simp) rfl
          have cY_0_0 := HYw5.out.cell 0 0 w2.heap.size _ _ _ rfl rfl rfl
          have cY_0_1 := HYw5.out.cell 0 1 w2.heap.size _ _ _ rfl rfl rfl
          have lM_0 := HMw5.out.lt 0 w4.heap.size (by simp) rfl
          have cM_0_0 := HMw5.out.cell 0 0 w4.heap.size _ _ _ rfl rfl rfl
          have fM_0_0 := HMw5.out.frozen 0 0 w4.heap.size _ _ rfl rfl
          have cM_0_1 := HMw5.out.cell 0 1 w4.heap.size _ _ _ rfl rfl rfl
          have fM_0_1 := HMw5.out.frozen 0 1 w4.heap.size _ _ rfl rfl
          have lM_1 := HMw5.out.lt 1 (w4.heap.size + 1) (by simp) rfl
          have cM_1_0 := HMw5.out.cell 1 0 (w4.heap.size + 1) _ _ _ rfl rfl rfl
          have fM_1_0 := HMw5.out.frozen 1 0 (w4.heap.size + 1) _ _ rfl rfl
          have cM_1_1 := HMw5.out.cell 1 1 (w4.heap.size + 1) _ _ _ rfl rfl rfl
          have fM_1_1 := HMw5.out.frozen 1 1 (w4.heap.size + 1) _ _ rfl rfl
          go_wp2_with fail
          clear lG1_0 cG1_0_0 cG1_0_1 lG1_1 cG1_1_0 cG1_1_1 lX_0 cX_0_0 cX_0_1 lY_0 cY_0_0 cY_0_1 lM_0 cM_0_0 fM_0_0 cM_0_1 fM_0_1 lM_1 cM_1_0 fM_1_0 cM_1_1 fM_1_1
          have HG1w5s := hide ((HG1w5.out.set ⟨w4.heap.size, 0, none⟩ (by simp; try omega) (.int .i64 0)).set ⟨w4.heap.size, 1, none⟩ (by simp; try omega) (.slice none 0 0))
          have HXw5s := hide ((HXw5.out.set ⟨w4.heap.size, 0, none⟩ (by simp; try omega) (.int .i64 0)).set ⟨w4.heap.size, 1, none⟩ (by simp; try omega) (.slice none 0 0))
          have HYw5s := hide ((HYw5.out.set ⟨w4.heap.size, 0, none⟩ (by simp; try omega) (.int .i64 0)).set ⟨w4.heap.size, 1, none⟩ (by simp; try omega) (.slice none 0 0))
          have HMw5s : Hid (Blks w4 ((w5.setCell ⟨w4.heap.size, 0, none⟩ (.int .i64 0)).setCell ⟨w4.heap.size, 1, none⟩ (.slice none 0 0)) [.cells #[.int .i64 0, .slice none 0 0] 45, .cells #[.int .i64 0, .slice none 0 0] 45]) := hide ((HMw5.out.put 0 0 w4.heap.size _ _ (.int .i64 0) rfl rfl).put 0 1 w4.heap.size _ _ (.slice none 0 0) rfl rfl)
          clear HG1w5 HXw5 HYw5 HMw5
          generalize ((w5.setCell ⟨w4.heap.size, 0, none⟩ (.int .i64 0)).setCell ⟨w4.heap.size, 1, none⟩ (.slice none 0 0)) = w5s at *
          refine (HCb.out _ (HLb.out.below HG1w5s.out.2.2)).mono ?_
          rintro e w6 ⟨rfl, hb⟩
          have HG1w6 := hide (HG1w5s.out.on hb)
          have HXw6 := hide (HXw5s.out.on hb)
          have HYw6 := hide (HYw5s.out.on hb)
          have HMw6 := hide (HMw5s.out.on hb)
          clear hb HG1w5s HXw5s HYw5s HMw5s
          have lG1_0 := HG1w6.out.lt 0 w.heap.size (by simp) rfl
          have cG1_0_0 := HG1w6.out.cell 0 0 w.heap.size _ _ _ rfl rfl rfl
          have cG1_0_1 := HG1w6.out.cell 0 1 w.heap.size _ _ _ rfl rfl rfl
          have lG1_1 := HG1w6.out.lt 1 (w.heap.size + 1) (by simp) rfl
          have cG1_1_0 := HG1w6.out.cell 1 0 (w.heap.size + 1) _ _ _ rfl rfl rfl
          have cG1_1_1 := HG1w6.out.cell 1 1 (w.heap.size + 1) _ _ _ rfl rfl rfl
          have lX_0 := HXw6.out.lt 0 w1.heap.size (by simp) rfl
          have cX_0_0 := HXw6.out.cell 0 0 w1.heap.size _ _ _ rfl rfl rfl
          have cX_0_1 := HXw6.out.cell 0 1 w1.heap.size _ _ _ rfl rfl rfl
          have lY_0 := HYw6.out.lt 0 w2.heap.size (by simp) rfl
          have cY_0_0 := HYw6.out.cell 0 0 w2.heap.size _ _ _ rfl rfl rfl
          have cY_0_1 := HYw6.out.cell 0 1 w2.heap.size _ _ _ rfl rfl rfl
          have lM_0 := HMw6.out.lt 0 w4.heap.size (by simp) rfl
          have cM_0_0 := HMw6.out.cell 0 0 w4.heap.size _ _ _ rfl rfl rfl
          have cM_0_1 := HMw6.out.cell 0 1 w4.heap.size _ _ _ rfl rfl rfl
          have lM_1 := HMw6.out.lt 1 (w4.heap.size + 1) (by simp) rfl
          have cM_1_0 := HMw6.out.cell 1 0 (w4.heap.size + 1) _ _ _ rfl rfl rfl
          have fM_1_0 := HMw6.out.frozen 1 0 (w4.heap.size + 1) _ _ rfl rfl
          have cM_1_1 := HMw6.out.cell 1 1 (w4.heap.size + 1) _ _ _ rfl rfl rfl
          have fM_1_1 := HMw6.out.frozen 1 1 (w4.heap.size + 1) _ _ rfl rfl
          go_wp2_with fail
          refine (HW.out _).mono ?_
          rintro e w7 ⟨rfl, hb⟩
          have HG1w7 := hide (HG1w6.out.on hb)
          have HXw7 := hide (HXw6.out.on hb)
          have HYw7 := hide (HYw6.out.on hb)
          have HMw7 := hide (HMw6.out.on hb)
          clear lG1_0 cG1_0_0 cG1_0_1 lG1_1 cG1_1_0 cG1_1_1 lX_0 cX_0_0 cX_0_1 lY_0 cY_0_0 cY_0_1 lM_0 cM_0_0 cM_0_1 lM_1 cM_1_0 fM_1_0 cM_1_1 fM_1_1
          clear hb HG1w6 HXw6 HYw6 HMw6
          have lG1_0 := HG1w7.out.lt 0 w.heap.size (by simp) rfl
          have cG1_0_0 := HG1w7.out.cell 0 0 w.heap.size _ _ _ rfl rfl rfl
          have cG1_0_1 := HG1w7.out.cell 0 1 w.heap.size _ _ _ rfl rfl rfl
          have lG1_1 := HG1w7.out.lt 1 (w.heap.size + 1) (by simp) rfl
          have cG1_1_0 := HG1w7.out.cell 1 0 (w.heap.size + 1) _ _ _ rfl rfl rfl
          have cG1_1_1 := HG1w7.out.cell 1 1 (w.heap.size + 1) _ _ _ rfl rfl rfl
          have lX_0 := HXw7.out.lt 0 w1.heap.size (by simp) rfl
          have cX_0_0 := HXw7.out.cell 0 0 w1.heap.size _ _ _ rfl rfl rfl
          have cX_0_1 := HXw7.out.cell 0 1 w1.heap.size _ _ _ rfl rfl rfl
          have lY_0 := HYw7.out.lt 0 w2.heap.size (by simp) rfl
          have cY_0_0 := HYw7.out.cell 0 0 w2.heap.size _ _ _ rfl rfl rfl
          have cY_0_1 := HYw7.out.cell 0 1 w2.heap.size _ _ _ rfl rfl rfl
          have lM_0 := HMw7.out.lt 0 w4.heap.size (by simp) rfl
          have cM_0_0 := HMw7.out.cell 0 0 w4.heap.size _ _ _ rfl rfl rfl
          have cM_0_1 := HMw7.out.cell 0 1 w4.heap.size _ _ _ rfl rfl rfl
          have lM_1 := HMw7.out.lt 1 (w4.heap.size + 1) (by simp) rfl
          have cM_1_0 := HMw7.out.cell 1 0 (w4.heap.size + 1) _ _ _ rfl rfl rfl
          have fM_1_0 := HMw7.out.frozen 1 0 (w4.heap.size + 1) _ _ rfl rfl
          have cM_1_1 := HMw7.out.cell 1 1 (w4.heap.size + 1) _ _ _ rfl rfl rfl
          have fM_1_1 := HMw7.out.frozen 1 1 (w4.heap.size + 1) _ _ rfl rfl
          go_wp2_with fail
          clear lG1_0 cG1_0_0 cG1_0_1 lG1_1 cG1_1_0 cG1_1_1 lX_0 cX_0_0 cX_0_1 lY_0 cY_0_0 cY_0_1 lM_0 cM_0_0 cM_0_1 lM_1 cM_1_0 fM_1_0 cM_1_1 fM_1_1
          have HG1w7s := hide ((HG1w7.out.set ⟨w4.heap.size + 1, 0, none⟩ (by simp; try omega) (.int .i64 va)).set ⟨w4.heap.size + 1, 1, none⟩ (by simp; try omega) (.slice oa La.length ca))
          have HXw7s := hide ((HXw7.out.set ⟨w4.heap.size + 1, 0, none⟩ (by simp; try omega) (.int .i64 va)).set ⟨w4.heap.size + 1, 1, none⟩ (by simp; try omega) (.slice oa La.length ca))
          have HYw7s := hide ((HYw7.out.set ⟨w4.heap.size + 1, 0, none⟩ (by simp; try omega) (.int .i64 va)).set ⟨w4.heap.size + 1, 1, none⟩ (by simp; try omega) (.slice oa La.length ca))
          have HMw7s : Hid (Blks w4 ((w7.setCell ⟨w4.heap.size + 1, 0, none⟩ (.int .i64 va)).setCell ⟨w4.heap.size + 1, 1, none⟩ (.slice oa La.length ca)) [.cells #[.int .i64 0, .slice none 0 0] 45, .cells #[.int .i64 va, .slice oa La.length ca] 45]) := hide ((HMw7.out.put 1 0 (w4.heap.size + 1) _ _ (.int .i64 va) rfl rfl).put 1 1 (w4.heap.size + 1) _ _ (.slice oa La.length ca) rfl rfl)
          clear HG1w7 HXw7 HYw7 HMw7
          generalize ((w7.setCell ⟨w4.heap.size + 1, 0, none⟩ (.int .i64 va)).setCell ⟨w4.heap.size + 1, 1, none⟩ (.slice oa La.length ca)) = w7s at *
          refine (deniedBegun_any _).mono ?_
          rintro e w8 ⟨rfl, hb⟩
          have HG1w8 := hide (HG1w7s.out.on hb)
          have HXw8 := hide (HXw7s.out.on hb)
          have HYw8 := hide (HYw7s.out.on hb)
          have HMw8 := hide (HMw7s.out.on hb)
          clear hb HG1w7s HXw7s HYw7s HMw7s
          have lG1_0 := HG1w8.out.lt 0 w.heap.size (by simp) rfl
          have cG1_0_0 := HG1w8.out.cell 0 0 w.heap.size _ _ _ rfl rfl rfl
          have cG1_0_1 := HG1w8.out.cell 0 1 w.heap.size _ _ _ rfl rfl rfl
          have lG1_1 := HG1w8.out.lt 1 (w.heap.size + 1) (by simp) rfl
          have cG1_1_0 := HG1w8.out.cell 1 0 (w.heap.size + 1) _ _ _ rfl rfl rfl
          have cG1_1_1 := HG1w8.out.cell 1 1 (w.heap.size + 1) _ _ _ rfl rfl rfl
          have lX_0 := HXw8.out.lt 0 w1.heap.size (by simp) rfl
          have cX_0_0 := HXw8.out.cell 0 0 w1.heap.size _ _ _ rfl rfl rfl
          have cX_0_1 := HXw8.out.cell 0 1 w1.heap.size _ _ _ rfl rfl rfl
          have lY_0 := HYw8.out.lt 0 w2.heap.size (by simp) rfl
          have cY_0_0 := HYw8.out.cell 0 0 w2.heap.size _ _ _ rfl rfl rfl
          have cY_0_1 := HYw8.out.cell 0 1 w2.heap.size _ _ _ rfl rfl rfl
          have lM_0 := HMw8.out.lt 0 w4.heap.size (by simp) rfl
          have cM_0_0 := HMw8.out.cell 0 0 w4.heap.size _ _ _ rfl rfl rfl
          have cM_0_1 := HMw8.out.cell 0 1 w4.heap.size _ _ _ rfl rfl rfl
          have lM_1 := HMw8.out.lt 1 (w4.heap.size + 1) (by simp) rfl
          have cM_1_0 := HMw8.out.cell 1 0 (w4.heap.size + 1) _ _ _ rfl rfl rfl
          have cM_1_1 := HMw8.out.cell 1 1 (w4.heap.size + 1) _ _ _ rfl rfl rfl
          go_wp2_with fail
          refine (HC.out _ (HLa.out.below HG1w8.out.2.2)).mono ?_
          rintro e w9 ⟨rfl, hb⟩
          have HG1w9 := hide (HG1w8.out.on hb)
          have HXw9 := hide (HXw8.out.on hb)
          have HYw9 := hide (HYw8.out.on hb)
          have HMw9 := hide (HMw8.out.on hb)
          clear lG1_0 cG1_0_0 cG1_0_1 lG1_1 cG1_1_0 cG1_1_1 lX_0 cX_0_0 cX_0_1 lY_0 cY_0_0 cY_0_1 lM_0 cM_0_0 cM_0_1 lM_1 cM_1_0 cM_1_1
          clear hb HG1w8 HXw8 HYw8 HMw8
          have lG1_0 := HG1w9.out.lt 0 w.heap.size (by simp) rfl
          have cG1_0_0 := HG1w9.out.cell 0 0 w.heap.size _ _ _ rfl rfl rfl
          have cG1_0_1 := HG1w9.out.cell 0 1 w.heap.size _ _ _ rfl rfl rfl
          have lG1_1 := HG1w9.out.lt 1 (w.heap.size + 1) (by simp) rfl
          have cG1_1_0 := HG1w9.out.cell 1 0 (w.heap.size + 1) _ _ _ rfl rfl rfl
          have cG1_1_1 := HG1w9.out.cell 1 1 (w.heap.size + 1) _ _ _ rfl rfl rfl
          have lX_0 := HXw9.out.lt 0 w1.heap.size (by simp) rfl
          have cX_0_0 := HXw9.out.cell 0 0 w1.heap.size _ _ _ rfl rfl rfl
          have cX_0_1 := HXw9.out.cell 0 1 w1.heap.size _ _ _ rfl rfl rfl
          have lY_0 := HYw9.out.lt 0 w2.heap.size (by simp) rfl
          have cY_0_0 := HYw9.out.cell 0 0 w2.heap.size _ _ _ rfl rfl rfl
          have cY_0_1 := HYw9.out.cell 0 1 w2.heap.size _ _ _ rfl rfl rfl
          have lM_0 := HMw9.out.lt 0 w4.heap.size (by simp) rfl
          have cM_0_0 := HMw9.out.cell 0 0 w4.heap.size _ _ _ rfl rfl rfl
          have cM_0_1 := HMw9.out.cell 0 1 w4.heap.size _ _ _ rfl rfl rfl
          have lM_1 := HMw9.out.lt 1 (w4.heap.size + 1) (by simp) rfl
          have cM_1_0 := HMw9.out.cell 1 0 (w4.heap.size + 1) _ _ _ rfl rfl rfl
          have cM_1_1 := HMw9.out.cell 1 1 (w4.heap.size + 1) _ _ _ rfl rfl rfl
          go_wp2_with fail
          refine (deniedIs_err _ ox none cx 0 0 0 _ (by decide)).mono ?_
          rintro e w10 ⟨rfl, hb⟩
          have HG1w10 := hide (HG1w9.out.on hb)
          have HXw10 := hide (HXw9.out.on hb)
          have HYw10 := hide (HYw9.out.on hb)
          have HMw10 := hide (HMw9.out.on hb)
          clear lG1_0 cG1_0_0 cG1_0_1 lG1_1 cG1_1_0 cG1_1_1 lX_0 cX_0_0 cX_0_1 lY_0 cY_0_0 cY_0_1 lM_0 cM_0_0 cM_0_1 lM_1 cM_1_0 cM_1_1
          clear hb HG1w9 HXw9 HYw9 HMw9
          have lG1_0 := HG1w10.out.lt 0 w.heap.size (by simp) rfl
          have cG1_0_0 := HG1w10.out.cell 0 0 w.heap.size _ _ _ rfl rfl rfl
          have cG1_0_1 := HG1w10.out.cell 0 1 w.heap.size _ _ _ rfl rfl rfl
          have lG1_1 := HG1w10.out.lt 1 (w.heap.size + 1) (by simp) rfl
          have cG1_1_0 := HG1w10.out.cell 1 0 (w.heap.size + 1) _ _ _ rfl rfl rfl
          have cG1_1_1 := HG1w10.out.cell 1 1 (w.heap.size + 1) _ _ _ rfl rfl rfl
          have lX_0 := HXw10.out.lt 0 w1.heap.size (by simp) rfl
          have cX_0_0 := HXw10.out.cell 0 0 w1.heap.size _ _ _ rfl rfl rfl
          have cX_0_1 := HXw10.out.cell 0 1 w1.heap.size _ _ _ rfl rfl rfl
          have lY_0 := HYw10.out.lt 0 w2.heap.size (by simp) rfl
          have cY_0_0 := HYw10.out.cell 0 0 w2.heap.size _ _ _ rfl rfl rfl
          have cY_0_1 := HYw10.out.cell 0 1 w2.heap.size _ _ _ rfl rfl rfl
          have lM_0 := HMw10.out.lt 0 w4.heap.size (by simp) rfl
          have cM_0_0 := HMw10.out.cell 0 0 w4.heap.size _ _ _ rfl rfl rfl
          have cM_0_1 := HMw10.out.cell 0 1 w4.heap.size _ _ _ rfl rfl rfl
          have lM_1 := HMw10.out.lt 1 (w4.heap.size + 1) (by simp) rfl
          have cM_1_0 := HMw10.out.cell 1 0 (w4.heap.size + 1) _ _ _ rfl rfl rfl
          have cM_1_1 := HMw10.out.cell 1 1 (w4.heap.size + 1) _ _ _ rfl rfl rfl
          go_wp2_with fail
          refine (HDy.out _ on oa cn ca (HY.out.below HYw10.out.2.2) (HLa.out.below HG1w10.out.2.2)).mono ?_
          rintro e w11 ⟨rfl, hb⟩
          have HG1w11 := hide (HG1w10.out.on hb)
          have HXw11 := hide (HXw10.out.on hb)
          have HYw11 := hide (HYw10.out.on hb)
          have HMw11 := hide (HMw10.out.on hb)
          clear lG1_0 cG1_0_0 cG1_0_1 lG1_1 cG1_1_0 cG1_1_1 lX_0 cX_0_0 cX_0_1 lY_0 cY_0_0 cY_0_1 lM_0 cM_0_0 cM_0_1 lM_1 cM_1_0 cM_1_1
          clear hb HG1w10 HXw10 HYw10 HMw10
          have lG1_0 := HG1w11.out.lt 0 w.heap.size (by simp) rfl
          have cG1_0_0 := HG1w11.out.cell 0 0 w.heap.size _ _ _ rfl rfl rfl
          have cG1_0_1 := HG1w11.out.cell 0 1 w.heap.size _ _ _ rfl rfl rfl
          have lG1_1 := HG1w11.out.lt 1 (w.heap.size + 1) (by simp) rfl
          have cG1_1_0 := HG1w11.out.cell 1 0 (w.heap.size + 1) _ _ _ rfl rfl rfl
          have cG1_1_1 := HG1w11.out.cell 1 1 (w.heap.size + 1) _ _ _ rfl rfl rfl
          have lX_0 := HXw11.out.lt 0 w1.heap.size (by simp) rfl
          have cX_0_0 := HXw11.out.cell 0 0 w1.heap.size _ _ _ rfl rfl rfl
          have cX_0_1 := HXw11.out.cell 0 1 w1.heap.size _ _ _ rfl rfl rfl
          have lY_0 := HYw11.out.lt 0 w2.heap.size (by simp) rfl
          have cY_0_0 := HYw11.out.cell 0 0 w2.heap.size _ _ _ rfl rfl rfl
          have cY_0_1 := HYw11.out.cell 0 1 w2.heap.size _ _ _ rfl rfl rfl
          have lM_0 := HMw11.out.lt 0 w4.heap.size (by simp) rfl
          have cM_0_0 := HMw11.out.cell 0 0 w4.heap.size _ _ _ rfl rfl rfl
          have cM_0_1 := HMw11.out.cell 0 1 w4.heap.size _ _ _ rfl rfl rfl
          have lM_1 := HMw11.out.lt 1 (w4.heap.size + 1) (by simp) rfl
          have cM_1_0 := HMw11.out.cell 1 0 (w4.heap.size + 1) _ _ _ rfl rfl rfl
          have cM_1_1 := HMw11.out.cell 1 1 (w4.heap.size + 1) _ _ _ rfl rfl rfl
          go_wp2_with fail
          go_ret
          exact ⟨by first | rfl | simp, HG1w11.out.2.2⟩
      · rw [if_neg hub, if_neg hub] at HN
        have hub' : (chkD vb Lb == 0) = false := by simpa using hub
        generalize chkD vb Lb = Eb at *
        clear HNl HM
        go_enter Try.func5, Try.ntmps5
        go_wp2_with fail
        have HG1 := hide (((Blks.nil w).more (.cells #[.int .i64 va, .slice oa La.length ca] 45) (by simp)).more (.cells #[.int .i64 vb, .slice ob Lb.length cb] 45) (by simp))
        refine (HA.out _ (HLa.out.below HG1.out.2.2)).mono ?_
        rintro e w1 ⟨⟨x, rfl, ⟨-, rfl, ox, cx, rfl, hx⟩⟩, hb⟩
        have HG1w1 := hide (HG1.out.on hb)
        have HX := hide hx.1
        clear hx
        clear hb HG1
        have lG1_0 := HG1w1.out.lt 0 w.heap.size (by simp) rfl
        have cG1_0_0 := HG1w1.out.cell 0 0 w.heap.size _ _ _ rfl rfl rfl
        have cG1_0_1 := HG1w1.out.cell 0 1 w.heap.size _ _ _ rfl rfl rfl
        have lG1_1 := HG1w1.out.lt 1 (w.heap.size + 1) (by simp) rfl
        have cG1_1_0 := HG1w1.out.cell 1 0 (w.heap.size + 1) _ _ _ rfl rfl rfl
        have cG1_1_1 := HG1w1.out.cell 1 1 (w.heap.size + 1) _ _ _ rfl rfl rfl
        go_wp2_with fail
        have HX := hide ((Blks.nil w1).more (.cells #[.int .i64 0, .slice ox 0 cx] 45) (by simp))
        refine (HN.out _ (HLa.out.below (HG1w1.out.on HX.out.2.2).2.2) (HLb.out.below (HG1w1.out.on HX.out.2.2).2.2)).mono ?_
        rintro e w2 ⟨⟨x, rfl, ⟨-, rfl, on, cn, rfl, hx⟩⟩, hb⟩
        have HXw2 := hide (HX.out.on hb)
        have HG1w2 := hide (HG1w1.out.on HXw2.out.2.2)
        have HY := hide hx.1
        clear hx
        clear lG1_0 cG1_0_0 cG1_0_1 lG1_1 cG1_1_0 cG1_1_1
        clear hb HG1w1 HX
        have lG1_0 := HG1w2.out.lt 0 w.heap.size (by simp) rfl
        have cG1_0_0 := HG1w2.out.cell 0 0 w.heap.size _ _ _ rfl rfl rfl
        have cG1_0_1 := HG1w2.out.cell 0 1 w.heap.size _ _ _ rfl rfl rfl
        have lG1_1 := HG1w2.out.lt 1 (w.heap.size + 1) (by simp) rfl
        have cG1_1_0 := HG1w2.out.cell 1 0 (w.heap.size + 1) _ _ _ rfl rfl rfl
        have cG1_1_1 := HG1w2.out.cell 1 1 (w.heap.size + 1) _ _ _ rfl rfl rfl
        have lX_0 := HXw2.out.lt 0 w1.heap.size (by simp) rfl
        have cX_0_0 := HXw2.out.cell 0 0 w1.heap.size _ _ _ rfl rfl rfl
        have cX_0_1 := HXw2.out.cell 0 1 w1.heap.size _ _ _ rfl rfl rfl
        go_wp2_with fail
        have HY := hide ((Blks.nil w2).more (.cells #[.int .i64 0, .slice on 0 cn] 45) (by simp))
        refine (HH.out _ (HLa.out.below (HG1w2.out.on HY.out.2.2).2.2)).mono ?_
        rintro e w3 ⟨rfl, hb⟩
        have HYw3 := hide (HY.out.on hb)
        have HG1w3 := hide (HG1w2.out.on HYw3.out.2.2)
        have HXw3 := hide (HXw2.out.on HYw3.out.2.2)
        clear lG1_0 cG1_0_0 cG1_0_1 lG1_1 cG1_1_0 cG1_1_1 lX_0 cX_0_0 cX_0_1
        clear hb HG1w2 HXw2 HY
        have lG1_0 := HG1w3.out.lt 0 w.heap.size (by simp) rfl
        have cG1_0_0 := HG1w3.out.cell 0 0 w.heap.size _ _ _ rfl rfl rfl
        have cG1_0_1 := HG1w3.out.cell 0 1 w.heap.size _ _ _ rfl rfl rfl
        have lG1_1 := HG1w3.out.lt 1 (w.heap.size + 1) (by simp) rfl
        have cG1_1_0 := HG1w3.out.cell 1 0 (w.heap.size + 1) _ _ _ rfl rfl rfl
        have cG1_1_1 := HG1w3.out.cell 1 1 (w.heap.size + 1) _ _ _ rfl rfl rfl
        have lX_0 := HXw3.out.lt 0 w1.heap.size (by simp) rfl
        have cX_0_0 := HXw3.out.cell 0 0 w1.heap.size _ _ _ rfl rfl rfl
        have cX_0_1 := HXw3.out.cell 0 1 w1.heap.size _ _ _ rfl rfl rfl
        have lY_0 := HYw3.out.lt 0 w2.heap.size (by simp) rfl
        have cY_0_0 := HYw3.out.cell 0 0 w2.heap.size _ _ _ rfl rfl rfl
        have cY_0_1 := HYw3.out.cell 0 1 w2.heap.size _ _ _ rfl rfl rfl
        go_wp2_with fail
        refine (HCa.out _ (HLa.out.below HG1w3.out.2.2)).mono ?_
        rintro e w4 ⟨rfl, hb⟩
        have HG1w4 := hide (HG1w3.out.on hb)
        have HXw4 := hide (HXw3.out.on hb)
        have HYw4 := hide (HYw3.out.on hb)
        clear lG1_0 cG1_0_0 cG1_0_1 lG1_1 cG1_1_0 cG1_1_1 lX_0 cX_0_0 cX_0_1 lY_0 cY_0_0 cY_0_1
        clear hb HG1w3 HXw3 HYw3
        have lG1_0 := HG1w4.out.lt 0 w.heap.size (by simp) rfl
        have cG1_0_0 := HG1w4.out.cell 0 0 w.heap.size _ _ _ rfl rfl rfl
        have cG1_0_1 := HG1w4.out.cell 0 1 w.heap.size _ _ _ rfl rfl rfl
        have lG1_1 := HG1w4.out.lt 1 (w.heap.size + 1) (by simp) rfl
        have cG1_1_0 := HG1w4.out.cell 1 0 (w.heap.size + 1) _ _ _ rfl rfl rfl
        have cG1_1_1 := HG1w4.out.cell 1 1 (w.heap.size + 1) _ _ _ rfl rfl rfl
        have lX_0 := HXw4.out.lt 0 w1.heap.size (by simp) rfl
        have cX_0_0 := HXw4.out.cell 0 0 w1.heap.size _ _ _ rfl rfl rfl
        have cX_0_1 := HXw4.out.cell 0 1 w1.heap.size _ _ _ rfl rfl rfl
        have lY_0 := HYw4.out.lt 0 w2.heap.size (by simp) rfl
        have cY_0_0 := HYw4.out.cell 0 0 w2.heap.size _ _ _ rfl rfl rfl
        have cY_0_1 := HYw4.out.cell 0 1 w2.heap.size _ _ _ rfl rfl rfl
        go_wp2_with fail
        clear lG1_0 cG1_0_0 cG1_0_1 lG1_1 cG1_1_0 cG1_1_1 lX_0 cX_0_0 cX_0_1 lY_0 cY_0_0 cY_0_1
        have zG1 := HG1w4.out.2.1
        simp only [List.length_append, List.length_cons, List.length_nil] at zG1
        have zX := HXw4.out.2.1
        simp only [List.length_append, List.length_cons, List.length_nil] at zX
        have zY := HYw4.out.2.1
        simp only [List.length_append, List.length_cons, List.length_nil] at zY
        have HM := hide (((Blks.nil w4).more (.cells #[.int .i64 0, .slice none 0 0] 45) (by simp)).more (.cells #[.int .i64 0, .slice none 0 0] 45) (by simp))
        refine (HE1.out _ (HLa.out.below (HG1w4.out.on HM.out.2.2).2.2) (by decide)).mono ?_
        rintro e w5 ⟨rfl, hb⟩
        have HMw5 := hide (HM.out.on hb)
        have HG1w5 := hide (HG1w4.out.on HMw5.out.2.2)
        have HXw5 := hide (HXw4.out.on HMw5.out.2.2)
        have HYw5 := hide (HYw4.out.on HMw5.out.2.2)
        clear hb HG1w4 HXw4 HYw4 HM
        have lG1_0 := HG1w5.out.lt 0 w.heap.size (by simp) rfl
        have cG1_0_0 := HG1w5.out.cell 0 0 w.heap.size _ _ _ rfl rfl rfl
        have cG1_0_1 := HG1w5.out.cell 0 1 w.heap.size _ _ _ rfl rfl rfl
        have lG1_1 := HG1w5.out.lt 1 (w.heap.size + 1) (by simp) rfl
        have cG1_1_0 := HG1w5.out.cell 1 0 (w.heap.size + 1) _ _ _ rfl rfl rfl
        have cG1_1_1 := HG1w5.out.cell 1 1 (w.heap.size + 1) _ _ _ rfl rfl rfl
        have lX_0 := HXw5.out.lt 0 w1.heap.size (by simp) rfl
        have cX_0_0 := HXw5.out.cell 0 0 w1.heap.size _ _ _ rfl rfl rfl
        have cX_0_1 := HXw5.out.cell 0 1 w1.heap.size _ _ _ rfl rfl rfl
        have lY_0 := HYw5.out.lt 0 w2.heap.size (by simp) rfl
        have cY_0_0 := HYw5.out.cell 0 0 w2.heap.size _ _ _ rfl rfl rfl
        have cY_0_1 := HYw5.out.cell 0 1 w2.heap.size _ _ _ rfl rfl rfl
        have lM_0 := HMw5.out.lt 0 w4.heap.size (by simp) rfl
        have cM_0_0 := HMw5.out.cell 0 0 w4.heap.size _ _ _ rfl rfl rfl
        have fM_0_0 := HMw5.out.frozen 0 0 w4.heap.size _ _ rfl rfl
        have cM_0_1 := HMw5.out.cell 0 1 w4.heap.size _ _ _ rfl rfl rfl
        have fM_0_1 := HMw5.out.frozen 0 1 w4.heap.size _ _ rfl rfl
        have lM_1 := HMw5.out.lt 1 (w4.heap.size + 1) (by simp) rfl
        have cM_1_0 := HMw5.out.cell 1 0 (w4.heap.size + 1) _ _ _ rfl rfl rfl
        have fM_1_0 := HMw5.out.frozen 1 0 (w4.heap.size + 1) _ _ rfl rfl
        have cM_1_1 := HMw5.out.cell 1 1 (w4.heap.size + 1) _ _ _ rfl rfl rfl
        have fM_1_1 := HMw5.out.frozen 1 1 (w4.heap.size + 1) _ _ rfl rfl
        go_wp2_with fail
        clear lG1_0 cG1_0_0 cG1_0_1 lG1_1 cG1_1_0 cG1_1_1 lX_0 cX_0_0 cX_0_1 lY_0 cY_0_0 cY_0_1 lM_0 cM_0_0 fM_0_0 cM_0_1 fM_0_1 lM_1 cM_1_0 fM_1_0 cM_1_1 fM_1_1
        have HG1w5s := hide ((HG1w5.out.set ⟨w4.heap.size, 0, none⟩ (by simp; try omega) (.int .i64 0)).set ⟨w4.heap.size, 1, none⟩ (by simp; try omega) (.slice none 0 0))
        have HXw5s := hide ((HXw5.out.set ⟨w4.heap.size, 0, none⟩ (by simp; try omega) (.int .i64 0)).set ⟨w4.heap.size, 1, none⟩ (by simp; try omega) (.slice none 0 0))
        have HYw5s := hide ((HYw5.out.set ⟨w4.heap.size, 0, none⟩ (by simp; try omega) (.int .i64 0)).set ⟨w4.heap.size, 1, none⟩ (by simp; try omega) (.slice none 0 0))
        have HMw5s : Hid (Blks w4 ((w5.setCell ⟨w4.heap.size, 0, none⟩ (.int .i64 0)).setCell ⟨w4.heap.size, 1, none⟩ (.slice none 0 0)) [.cells #[.int .i64 0, .slice none 0 0] 45, .cells #[.int .i64 0, .slice none 0 0] 45]) := hide ((HMw5.out.put 0 0 w4.heap.size _ _ (.int .i64 0) rfl rfl).put 0 1 w4.heap.size _ _ (.slice none 0 0) rfl rfl)
        clear HG1w5 HXw5 HYw5 HMw5
        generalize ((w5.setCell ⟨w4.heap.size, 0, none⟩ (.int .i64 0)).setCell ⟨w4.heap.size, 1, none⟩ (.slice none 0 0)) = w5s at *
        refine (HCb.out _ (HLb.out.below HG1w5s.out.2.2)).mono ?_
        rintro e w6 ⟨rfl, hb⟩
        have HG1w6 := hide (HG1w5s.out.on hb)
        have HXw6 := hide (HXw5s.out.on hb)
        have HYw6 := hide (HYw5s.out.on hb)
        have HMw6 := hide (HMw5s.out.on hb)
        clear hb HG1w5s HXw5s HYw5s HMw5s
        have lG1_0 := HG1w6.out.lt 0 w.heap.size (by simp) rfl
        have cG1_0_0 := HG1w6.out.cell 0 0 w.heap.size _ _ _ rfl rfl rfl
        have cG1_0_1 := HG1w6.out.cell 0 1 w.heap.size _ _ _ rfl rfl rfl
        have lG1_1 := HG1w6.out.lt 1 (w.heap.size + 1) (by simp) rfl
        have cG1_1_0 := HG1w6.out.cell 1 0 (w.heap.size + 1) _ _ _ rfl rfl rfl
        have cG1_1_1 := HG1w6.out.cell 1 1 (w.heap.size + 1) _ _ _ rfl rfl rfl
        have lX_0 := HXw6.out.lt 0 w1.heap.size (by simp) rfl
        have cX_0_0 := HXw6.out.cell 0 0 w1.heap.size _ _ _ rfl rfl rfl
        have cX_0_1 := HXw6.out.cell 0 1 w1.heap.size _ _ _ rfl rfl rfl
        have lY_0 := HYw6.out.lt 0 w2.heap.size (by simp) rfl
        have cY_0_0 := HYw6.out.cell 0 0 w2.heap.size _ _ _ rfl rfl rfl
        have cY_0_1 := HYw6.out.cell 0 1 w2.heap.size _ _ _ rfl rfl rfl
        have lM_0 := HMw6.out.lt 0 w4.heap.size (by simp) rfl
        have cM_0_0 := HMw6.out.cell 0 0 w4.heap.size _ _ _ rfl rfl rfl
        have cM_0_1 := HMw6.out.cell 0 1 w4.heap.size _ _ _ rfl rfl rfl
        have lM_1 := HMw6.out.lt 1 (w4.heap.size + 1) (by simp) rfl
        have cM_1_0 := HMw6.out.cell 1 0 (w4.heap.size + 1) _ _ _ rfl rfl rfl
        have fM_1_0 := HMw6.out.frozen 1 0 (w4.heap.size + 1) _ _ rfl rfl
        have cM_1_1 := HMw6.out.cell 1 1 (w4.heap.size + 1) _ _ _ rfl rfl rfl
        have fM_1_1 := HMw6.out.frozen 1 1 (w4.heap.size + 1) _ _ rfl rfl
        go_wp2_with fail
        refine (deniedBegun_any _).mono ?_
        rintro e w8 ⟨rfl, hb⟩
        have HG1w8 := hide (HG1w6.out.on hb)
        have HXw8 := hide (HXw6.out.on hb)
        have HYw8 := hide (HYw6.out.on hb)
        have HMw8 := hide (HMw6.out.on hb)
        clear lG1_0 cG1_0_0 cG1_0_1 lG1_1 cG1_1_0 cG1_1_1 lX_0 cX_0_0 cX_0_1 lY_0 cY_0_0 cY_0_1 lM_0 cM_0_0 cM_0_1 lM_1 cM_1_0 fM_1_0 cM_1_1 fM_1_1
        clear hb HG1w6 HXw6 HYw6 HMw6
        have lG1_0 := HG1w8.out.lt 0 w.heap.size (by simp) rfl
        have cG1_0_0 := HG1w8.out.cell 0 0 w.heap.size _ _ _ rfl rfl rfl
        have cG1_0_1 := HG1w8.out.cell 0 1 w.heap.size _ _ _ rfl rfl rfl
        have lG1_1 := HG1w8.out.lt 1 (w.heap.size + 1) (by simp) rfl
        have cG1_1_0 := HG1w8.out.cell 1 0 (w.heap.size + 1) _ _ _ rfl rfl rfl
        have cG1_1_1 := HG1w8.out.cell 1 1 (w.heap.size + 1) _ _ _ rfl rfl rfl
        have lX_0 := HXw8.out.lt 0 w1.heap.size (by simp) rfl
        have cX_0_0 := HXw8.out.cell 0 0 w1.heap.size _ _ _ rfl rfl rfl
        have cX_0_1 := HXw8.out.cell 0 1 w1.heap.size _ _ _ rfl rfl rfl
        have lY_0 := HYw8.out.lt 0 w2.heap.size (by simp) rfl
        have cY_0_0 := HYw8.out.cell 0 0 w2.heap.size _ _ _ rfl rfl rfl
        have cY_0_1 := HYw8.out.cell 0 1 w2.heap.size _ _ _ rfl rfl rfl
        have lM_0 := HMw8.out.lt 0 w4.heap.size (by simp) rfl
        have cM_0_0 := HMw8.out.cell 0 0 w4.heap.size _ _ _ rfl rfl rfl
        have cM_0_1 := HMw8.out.cell 0 1 w4.heap.size _ _ _ rfl rfl rfl
        have lM_1 := HMw8.out.lt 1 (w4.heap.size + 1) (by simp) rfl
        have cM_1_0 := HMw8.out.cell 1 0 (w4.heap.size + 1) _ _ _ rfl rfl rfl
        have cM_1_1 := HMw8.out.cell 1 1 (w4.heap.size + 1) _ _ _ rfl rfl rfl
        go_wp2_with fail
        refine (HC.out _ (HLa.out.below HG1w8.out.2.2)).mono ?_
        rintro e w9 ⟨rfl, hb⟩
        have HG1w9 := hide (HG1w8.out.on hb)
        have HXw9 := hide (HXw8.out.on hb)
        have HYw9 := hide (HYw8.out.on hb)
        have HMw9 := hide (HMw8.out.on hb)
        clear lG1_0 cG1_0_0 cG1_0_1 lG1_1 cG1_1_0 cG1_1_1 lX_0 cX_0_0 cX_0_1 lY_0 cY_0_0 cY_0_1 lM_0 cM_0_0 cM_0_1 lM_1 cM_1_0 cM_1_1
        clear hb HG1w8 HXw8 HYw8 HMw8
        have lG1_0 := HG1w9.out.lt 0 w.heap.size (by simp) rfl
        have cG1_0_0 := HG1w9.out.cell 0 0 w.heap.size _ _ _ rfl rfl rfl
        have cG1_0_1 := HG1w9.out.cell 0 1 w.heap.size _ _ _ rfl rfl rfl
        have lG1_1 := HG1w9.out.lt 1 (w.heap.size + 1) (by simp) rfl
        have cG1_1_0 := HG1w9.out.cell 1 0 (w.heap.size + 1) _ _ _ rfl rfl rfl
        have cG1_1_1 := HG1w9.out.cell 1 1 (w.heap.size + 1) _ _ _ rfl rfl rfl
        have lX_0 := HXw9.out.lt 0 w1.heap.size (by simp) rfl
        have cX_0_0 := HXw9.out.cell 0 0 w1.heap.size _ _ _ rfl rfl rfl
        have cX_0_1 := HXw9.out.cell 0 1 w1.heap.size _ _ _ rfl rfl rfl
        have lY_0 := HYw9.out.lt 0 w2.heap.size (by simp) rfl
        have cY_0_0 := HYw9.out.cell 0 0 w2.heap.size _ _ _ rfl rfl rfl
        have cY_0_1 := HYw9.out.cell 0 1 w2.heap.size _ _ _ rfl rfl rfl
        have lM_0 := HMw9.out.lt 0 w4.heap.size (by simp) rfl
        have cM_0_0 := HMw9.out.cell 0 0 w4.heap.size _ _ _ rfl rfl rfl
        have cM_0_1 := HMw9.out.cell 0 1 w4.heap.size _ _ _ rfl rfl rfl
        have lM_1 := HMw9.out.lt 1 (w4.heap.size + 1) (by simp) rfl
        have cM_1_0 := HMw9.out.cell 1 0 (w4.heap.size + 1) _ _ _ rfl rfl rfl
        have cM_1_1 := HMw9.out.cell 1 1 (w4.heap.size + 1) _ _ _ rfl rfl rfl
        go_wp2_with fail
        refine (deniedIs_err _ ox none cx 0 0 0 _ (by decide)).mono ?_
        rintro e w10 ⟨rfl, hb⟩
        have HG1w10 := hide (HG1w9.out.on hb)
        have HXw10 := hide (HXw9.out.on hb)
        have HYw10 := hide (HYw9.out.on hb)
        have HMw10 := hide (HMw9.out.on hb)
        clear lG1_0 cG1_0_0 cG1_0_1 lG1_1 cG1_1_0 cG1_1_1 lX_0 cX_0_0 cX_0_1 lY_0 cY_0_0 cY_0_1 lM_0 cM_0_0 cM_0_1 lM_1 cM_1_0 cM_1_1
        clear hb HG1w9 HXw9 HYw9 HMw9
        have lG1_0 := HG1w10.out.lt 0 w.heap.size (by simp) rfl
        have cG1_0_0 := HG1w10.out.cell 0 0 w.heap.size _ _ _ rfl rfl rfl
        have cG1_0_1 := HG1w10.out.cell 0 1 w.heap.size _ _ _ rfl rfl rfl
        have lG1_1 := HG1w10.out.lt 1 (w.heap.size + 1) (by simp) rfl
        have cG1_1_0 := HG1w10.out.cell 1 0 (w.heap.size + 1) _ _ _ rfl rfl rfl
        have cG1_1_1 := HG1w10.out.cell 1 1 (w.heap.size + 1) _ _ _ rfl rfl rfl
        have lX_0 := HXw10.out.lt 0 w1.heap.size (by simp) rfl
        have cX_0_0 := HXw10.out.cell 0 0 w1.heap.size _ _ _ rfl rfl rfl
        have cX_0_1 := HXw10.out.cell 0 1 w1.heap.size _ _ _ rfl rfl rfl
        have lY_0 := HYw10.out.lt 0 w2.heap.size (by simp) rfl
        have cY_0_0 := HYw10.out.cell 0 0 w2.heap.size _ _ _ rfl rfl rfl
        have cY_0_1 := HYw10.out.cell 0 1 w2.heap.size _ _ _ rfl rfl rfl
        have lM_0 := HMw10.out.lt 0 w4.heap.size (by simp) rfl
        have cM_0_0 := HMw10.out.cell 0 0 w4.heap.size _ _ _ rfl rfl rfl
        have cM_0_1 := HMw10.out.cell 0 1 w4.heap.size _ _ _ rfl rfl rfl
        have lM_1 := HMw10.out.lt 1 (w4.heap.size + 1) (by simp) rfl
        have cM_1_0 := HMw10.out.cell 1 0 (w4.heap.size + 1) _ _ _ rfl rfl rfl
        have cM_1_1 := HMw10.out.cell 1 1 (w4.heap.size + 1) _ _ _ rfl rfl rfl
        go_wp2_with fail
        refine (deniedIs_err _ on none cn 0 0 0 _ hub).mono ?_
        rintro e w11 ⟨rfl, hb⟩
        have HG1w11 := hide (HG1w10.out.on hb)
        have HXw11 := hide (HXw10.out.on hb)
        have HYw11 := hide (HYw10.out.on hb)
        have HMw11 := hide (HMw10.out.on hb)
        clear lG1_0 cG1_0_0 cG1_0_1 lG1_1 cG1_1_0 cG1_1_1 lX_0 cX_0_0 cX_0_1 lY_0 cY_0_0 cY_0_1 lM_0 cM_0_0 cM_0_1 lM_1 cM_1_0 cM_1_1
        clear hb HG1w10 HXw10 HYw10 HMw10
        have lG1_0 := HG1w11.out.lt 0 w.heap.size (by simp) rfl
        have cG1_0_0 := HG1w11.out.cell 0 0 w.heap.size _ _ _ rfl rfl rfl
        have cG1_0_1 := HG1w11.out.cell 0 1 w.heap.size _ _ _ rfl rfl rfl
        have lG1_1 := HG1w11.out.lt 1 (w.heap.size + 1) (by simp) rfl
        have cG1_1_0 := HG1w11.out.cell 1 0 (w.heap.size + 1) _ _ _ rfl rfl rfl
        have cG1_1_1 := HG1w11.out.cell 1 1 (w.heap.size + 1) _ _ _ rfl rfl rfl
        have lX_0 := HXw11.out.lt 0 w1.heap.size (by simp) rfl
        have cX_0_0 := HXw11.out.cell 0 0 w1.heap.size _ _ _ rfl rfl rfl
        have cX_0_1 := HXw11.out.cell 0 1 w1.heap.size _ _ _ rfl rfl rfl
        have lY_0 := HYw11.out.lt 0 w2.heap.size (by simp) rfl
        have cY_0_0 := HYw11.out.cell 0 0 w2.heap.size _ _ _ rfl rfl rfl
        have cY_0_1 := HYw11.out.cell 0 1 w2.heap.size _ _ _ rfl rfl rfl
        have lM_0 := HMw11.out.lt 0 w4.heap.size (by simp) rfl
        have cM_0_0 := HMw11.out.cell 0 0 w4.heap.size _ _ _ rfl rfl rfl
        have cM_0_1 := HMw11.out.cell 0 1 w4.heap.size _ _ _ rfl rfl rfl
        have lM_1 := HMw11.out.lt 1 (w4.heap.size + 1) (by simp) rfl
        have cM_1_0 := HMw11.out.cell 1 0 (w4.heap.size + 1) _ _ _ rfl rfl rfl
        have cM_1_1 := HMw11.out.cell 1 1 (w4.heap.size + 1) _ _ _ rfl rfl rfl
        go_wp2_with fail
        go_ret
        exact ⟨by first | rfl | simp, HG1w11.out.2.2⟩
    · rw [hw, if_pos rfl] at hEs
      rw [hw, if_neg (by decide), decide_eq_false (by decide), Bool.false_and] at HH
      rw [hEs, if_neg (by decide), if_neg (by decide)] at HA
      rw [hEs] at HE1
      clear hEs hw HE0
      by_cases hub : chkD vb Lb = 0
      · have hNl := HNl.out hub
        rw [hub, if_pos rfl, if_pos rfl] at HN
        rw [hub] at HCb
        by_cases hlt : va < vb
        · rw [if_pos hlt, if_pos hlt] at HN
          rw [if_pos hlt] at HW hNl
          have HDy := hide (fun W o o' c c' (h : IntsAt W o Lb) (h' : IntsAt W o' Lb) => deniedIs_ok vb Lb o o' c c' W h h' hNl)
          clear hlt hub hNl HNl HM
          go_enter Try.func5, Try.ntmps5
          go_wp2_with fail
          have HG1 := hide (((Blks.nil w).more (.cells #[.int .i64 va, .slice oa La.length ca] 45) (by simp)).more (.cells #[.int .i64 vb, .slice ob Lb.length cb] 45) (by simp))
          refine (HA.out _ (HLa.out.below HG1.out.2.2)).mono ?_
          rintro e w1 ⟨⟨x, rfl, ⟨-, rfl, ox, cx, rfl, hx⟩⟩, hb⟩
          have HG1w1 := hide (HG1.out.on hb)
          have HX := hide hx.1
          clear hx
          clear hb HG1
          have lG1_0 := HG1w1.out.lt 0 w.heap.size (by simp) rfl
          have cG1_0_0 := HG1w1.out.cell 0 0 w.heap.size _ _ _ rfl rfl rfl
          have cG1_0_1 := HG1w1.out.cell 0 1 w.heap.size _ _ _ rfl rfl rfl
          have lG1_1 := HG1w1.out.lt 1 (w.heap.size + 1) (by simp) rfl
          have cG1_1_0 := HG1w1.out.cell 1 0 (w.heap.size + 1) _ _ _ rfl rfl rfl
          have cG1_1_1 := HG1w1.out.cell 1 1 (w.heap.size + 1) _ _ _ rfl rfl rfl
          go_wp2_with fail
          have HX := hide ((Blks.nil w1).more (.cells #[.int .i64 0, .slice ox 0 cx] 45) (by simp))
          refine (HN.out _ (HLa.out.below (HG1w1.out.on HX.out.2.2).2.2) (HLb.out.below (HG1w1.out.on HX.out.2.2).2.2)).mono ?_
          rintro e w2 ⟨⟨x, rfl, ⟨-, rfl, on, cn, rfl, hx⟩⟩, hb⟩
          have HXw2 := hide (HX.out.on hb)
          have HG1w2 := hide (HG1w1.out.on HXw2.out.2.2)
          have HY := hide hx.1
          clear hx
          clear lG1_0 cG1_0_0 cG1_0_1 lG1_1 cG1_1_0 cG1_1_1
          clear hb HG1w1 HX
          have lG1_0 := HG1w2.out.lt 0 w.heap.size (by simp) rfl
          have cG1_0_0 := HG1w2.out.cell 0 0 w.heap.size _ _ _ rfl rfl rfl
          have cG1_0_1 := HG1w2.out.cell 0 1 w.heap.size _ _ _ rfl rfl rfl
          have lG1_1 := HG1w2.out.lt 1 (w.heap.size + 1) (by simp) rfl
          have cG1_1_0 := HG1w2.out.cell 1 0 (w.heap.size + 1) _ _ _ rfl rfl rfl
          have cG1_1_1 := HG1w2.out.cell 1 1 (w.heap.size + 1) _ _ _ rfl rfl rfl
          have lX_0 := HXw2.out.lt 0 w1.heap.size (by simp) rfl
          have cX_0_0 := HXw2.out.cell 0 0 w1.heap.size _ _ _ rfl rfl rfl
          have cX_0_1 := HXw2.out.cell 0 1 w1.heap.size _ _ _ rfl rfl rfl
          go_wp2_with fail
          have HY := hide ((Blks.nil w2).more (.cells #[.int .i64 vb, .slice on Lb.length cn] 45) (by simp))
          refine (HH.out _ (HLa.out.below (HG1w2.out.on HY.out.2.2).2.2)).mono ?_
          rintro e w3 ⟨rfl, hb⟩
          have HYw3 := hide (HY.out.on hb)
          have HG1w3 := hide (HG1w2.out.on HYw3.out.2.2)
          have HXw3 := hide (HXw2.out.on HYw3.out.2.2)
          clear lG1_0 cG1_0_0 cG1_0_1 lG1_1 cG1_1_0 cG1_1_1 lX_0 cX_0_0 cX_0_1
          clear hb HG1w2 HXw2 HY
          have lG1_0 := HG1w3.out.lt 0 w.heap.size (by simp) rfl
          have cG1_0_0 := HG1w3.out.cell 0 0 w.heap.size _ _ _ rfl rfl rfl
          have cG1_0_1 := HG1w3.out.cell 0 1 w.heap.size _ _ _ rfl rfl rfl
          have lG1_1 := HG1w3.out.lt 1 (w.heap.size + 1) (by simp) rfl
          have cG1_1_0 := HG1w3.out.cell 1 0 (w.heap.size + 1) _ _ _ rfl rfl rfl
          have cG1_1_1 := HG1w3.out.cell 1 1 (w.heap.size + 1) _ _ _ rfl rfl rfl
          have lX_0 := HXw3.out.lt 0 w1.heap.size (by simp) rfl
          have cX_0_0 := HXw3.out.cell 0 0 w1.heap.size _ _ _ rfl rfl rfl
          have cX_0_1 := HXw3.out.cell 0 1 w1.heap.size _ _ _ rfl rfl rfl
          have lY_0 := HYw3.out.lt 0 w2.heap.size (by simp) rfl
          have cY_0_0 := HYw3.out.cell 0 0 w2.heap.size _ _ _ rfl rfl rfl
          have cY_0_1 := HYw3.out.cell 0 1 w2.heap.size _ _ _ rfl rfl rfl
          go_wp2_with fail
          refine (HCa.out _ (HLa.out.below HG1w3.out.2.2)).mono ?_
          rintro e w4 ⟨rfl, hb⟩
          have HG1w4 := hide (HG1w3.out.on hb)
          have HXw4 := hide (HXw3.out.on hb)
          have HYw4 := hide (HYw3.out.on hb)
          clear lG1_0 cG1_0_0 cG1_0_1 lG1_1 cG1_1_0 cG1_1_1 lX_0 cX_0_0 cX_0_1 lY_0 cY_0_0 cY_0_1
          clear hb HG1w3 HXw3 HYw3
          have lG1_0 := HG1w4.out.lt 0 w.heap.size (by simp) rfl
          have cG1_0_0 := HG1w4.out.cell 0 0 w.heap.size _ _ _ rfl rfl rfl
          have cG1_0_1 := HG1w4.out.cell 0 1 w.heap.size _ _ _ rfl rfl rfl
          have lG1_1 := HG1w4.out.lt 1 (w.heap.size + 1) (by simp) rfl
          have cG1_1_0 := HG1w4.out.cell 1 0 (w.heap.size + 1) _ _ _ rfl rfl rfl
          have cG1_1_1 := HG1w4.out.cell 1 1 (w.heap.size + 1) _ _ _ rfl rfl rfl
          have lX_0 := HXw4.out.lt 0 w1.heap.size (by simp) rfl
          have cX_0_0 := HXw4.out.cell 0 0 w1.heap.size _ _ _ rfl rfl rfl
          have cX_0_1 := HXw4.out.cell 0 1 w1.heap.size _ _ _ rfl rfl rfl
          have lY_0 := HYw4.out.lt 0 w2.heap.size (by simp) rfl
          have cY_0_0 := HYw4.out.cell 0 0 w2.heap.size _ _ _ rfl rfl rfl
          have cY_0_1 := HYw4.out.cell 0 1 w2.heap.size _ _ _ rfl rfl rfl
          go_wp2_with fail
          clear lG1_0 cG1_0_0 cG1_0_1 lG1_1 cG1_1_0 cG1_1_1 lX_0 cX_0_0 cX_0_1 lY_0 cY_0_0 cY_0_1
          have zG1 := HG1w4.out.2.1
          simp only [List.length_append, List.length_cons, List.length_nil] at zG1
          have zX := HXw4.out.2.1
          simp only [List.length_append, List.length_cons, List.length_nil] at zX
          have zY := HYw4.out.2.1
          simp only [List.length_append, List.length_cons, List.length_nil] at zY
          have HM := hide (((Blks.nil w4).more (.cells #[.int .i64 0, .slice none 0 0] 45) (by simp)).more (.cells #[.int .i64 0, .slice none 0 0] 45) (by simp))
          refine (HE1.out _ (HLa.out.below (HG1w4.out.on HM.out.2.2).2.2) (by decide)).mono ?_
          rintro e w5 ⟨rfl, hb⟩
          have HMw5 := hide (HM.out.on hb)
          have HG1w5 := hide (HG1w4.out.on HMw5.out.2.2)
          have HXw5 := hide (HXw4.out.on HMw5.out.2.2)
          have HYw5 := hide (HYw4.out.on HMw5.out.2.2)
          clear hb HG1w4 HXw4 HYw4 HM
          have lG1_0 := HG1w5.out.lt 0 w.heap.size (by simp) rfl
          have cG1_0_0 := HG1w5.out.cell 0 0 w.heap.size _ _ _ rfl rfl rfl
          have cG1_0_1 := HG1w5.out.cell 0 1 w.heap.size _ _ _ rfl rfl rfl
          have lG1_1 := HG1w5.out.lt 1 (w.heap.size + 1) (by simp) rfl
          have cG1_1_0 := HG1w5.out.cell 1 0 (w.heap.size + 1) _ _ _ rfl rfl rfl
          have cG1_1_1 := HG1w5.out.cell 1 1 (w.heap.size + 1) _ _ _ rfl rfl rfl
          have lX_0 := HXw5.out.lt 0 w1.heap.size (by simp) rfl
          have cX_0_0 := HXw5.out.cell 0 0 w1.heap.size _ _ _ rfl rfl rfl
          have cX_0_1 := HXw5.out.cell 0 1 w1.heap.size _ _ _ rfl rfl rfl
          have lY_0 := HYw5.out.lt 0 w2.heap.size (by simp) rfl
          have cY_0_0 := HYw5.out.cell 0 0 w2.heap.size _ _ _ rfl rfl rfl
          have cY_0_1 := HYw5.out.cell 0 1 w2.heap.size _ _ _ rfl rfl rfl
          have lM_0 := HMw5.out.lt 0 w4.heap.size (by simp) rfl
          have cM_0_0 := HMw5.out.cell 0 0 w4.heap.size _ _ _ rfl rfl rfl
          have fM_0_0 := HMw5.out.frozen 0 0 w4.heap.size _ _ rfl rfl
          have cM_0_1 := HMw5.out.cell 0 1 w4.heap.size _ _ _ rfl rfl rfl
          have fM_0_1 := HMw5.out.frozen 0 1 w4.heap.size _ _ rfl rfl
          have lM_1 := HMw5.out.lt 1 (w4.heap.size + 1) (by simp) rfl
          have cM_1_0 := HMw5.out.cell 1 0 (w4.heap.size + 1) _ _ _ rfl rfl rfl
          have fM_1_0 := HMw5.out.frozen 1 0 (w4.heap.size + 1) _ _ rfl rfl
          have cM_1_1 := HMw5.out.cell 1 1 (w4.heap.size + 1) _ _ _ rfl rfl rfl
          have fM_1_1 := HMw5.out.frozen 1 1 (w4.heap.size + 1) _ _ rfl rfl
          go_wp2_with fail
          clear lG1_0 cG1_0_0 cG1_0_1 lG1_1 cG1_1_0 cG1_1_1 lX_0 cX_0_0 cX_0_1 lY_0 cY_0_0 cY_0_1 lM_0 cM_0_0 fM_0_0 cM_0_1 fM_0_1 lM_1 cM_1_0 fM_1_0 cM_1_1 fM_1_1
          have HG1w5s := hide ((HG1w5.out.set ⟨w4.heap.size, 0, none⟩ (by simp; try omega) (.int .i64 0)).set ⟨w4.heap.size, 1, none⟩ (by simp; try omega) (.slice none 0 0))
          have HXw5s := hide ((HXw5.out.set ⟨w4.heap.size, 0, none⟩ (by simp; try omega) (.int .i64 0)).set ⟨w4.heap.size, 1, none⟩ (by simp; try omega) (.slice none 0 0))
          have HYw5s := hide ((HYw5.out.set ⟨w4.heap.size, 0, none⟩ (by simp; try omega) (.int .i64 0)).set ⟨w4.heap.size, 1, none⟩ (by simp; try omega) (.slice none 0 0))
          have HMw5s : Hid (Blks w4 ((w5.setCell ⟨w4.heap.size, 0, none⟩ (.int .i64 0)).setCell ⟨w4.heap.size, 1, none⟩ (.slice none 0 0)) [.cells #[.int .i64 0, .slice none 0 0] 45, .cells #[.int .i64 0, .slice none 0 0] 45]) := hide ((HMw5.out.put 0 0 w4.heap.size _ _ (.int .i64 0) rfl rfl).put 0 1 w4.heap.size _ _ (.slice none 0 0) rfl rfl)
          clear HG1w5 HXw5 HYw5 HMw5
          generalize ((w5.setCell ⟨w4.heap.size, 0, none⟩ (.int .i64 0)).setCell ⟨w4.heap.size, 1, none⟩ (.slice none 0 0)) = w5s at *
          refine (HCb.out _ (HLb.out.below HG1w5s.out.2.2)).mono ?_
          rintro e w6 ⟨rfl, hb⟩
          have HG1w6 := hide (HG1w5s.out.on hb)
          have HXw6 := hide (HXw5s.out.on hb)
          have HYw6 := hide (HYw5s.out.on hb)
          have HMw6 := hide (HMw5s.out.on hb)
          clear hb HG1w5s HXw5s HYw5s HMw5s
          have lG1_0 := HG1w6.out.lt 0 w.heap.size (by simp) rfl
          have cG1_0_0 := HG1w6.out.cell 0 0 w.heap.size _ _ _ rfl rfl rfl
          have cG1_0_1 := HG1w6.out.cell 0 1 w.heap.size _ _ _ rfl rfl rfl
          have lG1_1 := HG1w6.out.lt 1 (w.heap.size + 1) (by simp) rfl
          have cG1_1_0 := HG1w6.out.cell 1 0 (w.heap.size + 1) _ _ _ rfl rfl rfl
          have cG1_1_1 := HG1w6.out.cell 1 1 (w.heap.size + 1) _ _ _ rfl rfl rfl
          have lX_0 := HXw6.out.lt 0 w1.heap.size (by simp) rfl
          have cX_0_0 := HXw6.out.cell 0 0 w1.heap.size _ _ _ rfl rfl rfl
          have cX_0_1 := HXw6.out.cell 0 1 w1.heap.size _ _ _ rfl rfl rfl
          have lY_0 := HYw6.out.lt 0 w2.heap.size (by simp) rfl
          have cY_0_0 := HYw6.out.cell 0 0 w2.heap.size _ _ _ rfl rfl rfl
          have cY_0_1 := HYw6.out.cell 0 1 w2.heap.size _ _ _ rfl rfl rfl
          have lM_0 := HMw6.out.lt 0 w4.heap.size (by simp) rfl
          have cM_0_0 := HMw6.out.cell 0 0 w4.heap.size _ _ _ rfl rfl rfl
          have cM_0_1 := HMw6.out.cell 0 1 w4.heap.size _ _ _ rfl rfl rfl
          have lM_1 := HMw6.out.lt 1 (w4.heap.size + 1) (by simp) rfl
          have cM_1_0 := HMw6.out.cell 1 0 (w4.heap.size + 1) _ _ _ rfl rfl rfl
          have fM_1_0 := HMw6.out.frozen 1 0 (w4.heap.size + 1) _ _ rfl rfl
          have cM_1_1 := HMw6.out.cell 1 1 (w4.heap.size + 1) _ _ _ rfl rfl rfl
          have fM_1_1 := HMw6.out.frozen 1 1 (w4.heap.size + 1) _ _ rfl rfl
          go_wp2_with fail
          refine (HW.out _).mono ?_
          rintro e w7 ⟨rfl, hb⟩
          have HG1w7 := hide (HG1w6.out.on hb)
          have HXw7 := hide (HXw6.out.on hb)
          have HYw7 := hide (HYw6.out.on hb)
          have HMw7 := hide (HMw6.out.on hb)
          clear lG1_0 cG1_0_0 cG1_0_1 lG1_1 cG1_1_0 cG1_1_1 lX_0 cX_0_0 cX_0_1 lY_0 cY_0_0 cY_0_1 lM_0 cM_0_0 cM_0_1 lM_1 cM_1_0 fM_1_0 cM_1_1 fM_1_1
          clear hb HG1w6 HXw6 HYw6 HMw6
          have lG1_0 := HG1w7.out.lt 0 w.heap.size (by simp) rfl
          have cG1_0_0 := HG1w7.out.cell 0 0 w.heap.size _ _ _ rfl rfl rfl
          have cG1_0_1 := HG1w7.out.cell 0 1 w.heap.size _ _ _ rfl rfl rfl
          have lG1_1 := HG1w7.out.lt 1 (w.heap.size + 1) (by simp) rfl
          have cG1_1_0 := HG1w7.out.cell 1 0 (w.heap.size + 1) _ _ _ rfl rfl rfl
          have cG1_1_1 := HG1w7.out.cell 1 1 (w.heap.size + 1) _ _ _ rfl rfl rfl
          have lX_0 := HXw7.out.lt 0 w1.heap.size (by simp) rfl
          have cX_0_0 := HXw7.out.cell 0 0 w1.heap.size _ _ _ rfl rfl rfl
          have cX_0_1 := HXw7.out.cell 0 1 w1.heap.size _ _ _ rfl rfl rfl
          have lY_0 := HYw7.out.lt 0 w2.heap.size (by simp) rfl
          have cY_0_0 := HYw7.out.cell 0 0 w2.heap.size _ _ _ rfl rfl rfl
          have cY_0_1 := HYw7.out.cell 0 1 w2.heap.size _ _ _ rfl rfl rfl
          have lM_0 := HMw7.out.lt 0 w4.heap.size (by simp) rfl
          have cM_0_0 := HMw7.out.cell 0 0 w4.heap.size _ _ _ rfl rfl rfl
          have cM_0_1 := HMw7.out.cell 0 1 w4.heap.size _ _ _ rfl rfl rfl
          have lM_1 := HMw7.out.lt 1 (w4.heap.size + 1) (by simp) rfl
          have cM_1_0 := HMw7.out.cell 1 0 (w4.heap.size + 1) _ _ _ rfl rfl rfl
          have fM_1_0 := HMw7.out.frozen 1 0 (w4.heap.size + 1) _ _ rfl rfl
          have cM_1_1 := HMw7.out.cell 1 1 (w4.heap.size + 1) _ _ _ rfl rfl rfl
          have fM_1_1 := HMw7.out.frozen 1 1 (w4.heap.size + 1) _ _ rfl rfl
          go_wp2_with fail
          clear lG1_0 cG1_0_0 cG1_0_1 lG1_1 cG1_1_0 cG1_1_1 lX_0 cX_0_0 cX_0_1 lY_0 cY_0_0 cY_0_1 lM_0 cM_0_0 cM_0_1 lM_1 cM_1_0 fM_1_0 cM_1_1 fM_1_1
          have HG1w7s := hide ((HG1w7.out.set ⟨w4.heap.size + 1, 0, none⟩ (by simp; try omega) (.int .i64 vb)).set ⟨w4.heap.size + 1, 1, none⟩ (by simp; try omega) (.slice ob Lb.length cb))
          have HXw7s := hide ((HXw7.out.set ⟨w4.heap.size + 1, 0, none⟩ (by simp; try omega) (.int .i64 vb)).set ⟨w4.heap.size + 1, 1, none⟩ (by simp; try omega) (.slice ob Lb.length cb))
          have HYw7s := hide ((HYw7.out.set ⟨w4.heap.size + 1, 0, none⟩ (by simp; try omega) (.int .i64 vb)).set ⟨w4.heap.size + 1, 1, none⟩ (by simp; try omega) (.slice ob Lb.length cb))
          have HMw7s : Hid (Blks w4 ((w7.setCell ⟨w4.heap.size + 1, 0, none⟩ (.int .i64 vb)).setCell ⟨w4.heap.size + 1, 1, none⟩ (.slice ob Lb.length cb)) [.cells #[.int .i64 0, .slice none 0 0] 45, .cells #[.int .i64 vb, .slice ob Lb.length cb] 45]) := hide ((HMw7.out.put 1 0 (w4.heap.size + 1) _ _ (.int .i64 vb) rfl rfl).put 1 1 (w4.heap.size + 1) _ _ (.slice ob Lb.length cb) rfl rfl)
          clear HG1w7 HXw7 HYw7 HMw7
          generalize ((w7.setCell ⟨w4.heap.size + 1, 0, none⟩ (.int .i64 vb)).setCell ⟨w4.heap.size + 1, 1, none⟩ (.slice ob Lb.length cb)) = w7s at *
          refine (deniedBegun_any _).mono ?_
          rintro e w8 ⟨rfl, hb⟩
          have HG1w8 := hide (HG1w7s.out.on hb)
          have HXw8 := hide (HXw7s.out.on hb)
          have HYw8 := hide (HYw7s.out.on hb)
          have HMw8 := hide (HMw7s.out.on hb)
          clear hb HG1w7s HXw7s HYw7s HMw7s
          have lG1_0 := HG1w8.out.lt 0 w.heap.size (by simp) rfl
          have cG1_0_0 := HG1w8.out.cell 0 0 w.heap.size _ _ _ rfl rfl rfl
          have cG1_0_1 := HG1w8.out.cell 0 1 w.heap.size _ _ _ rfl rfl rfl
          have lG1_1 := HG1w8.out.lt 1 (w.heap.size + 1) (by simp) rfl
          have cG1_1_0 := HG1w8.out.cell 1 0 (w.heap.size + 1) _ _ _ rfl rfl rfl
          have cG1_1_1 := HG1w8.out.cell 1 1 (w.heap.size + 1) _ _ _ rfl rfl rfl
          have lX_0 := HXw8.out.lt 0 w1.heap.size (by simp) rfl
          have cX_0_0 := HXw8.out.cell 0 0 w1.heap.size _ _ _ rfl rfl rfl
          have cX_0_1 := HXw8.out.cell 0 1 w1.heap.size _ _ _ rfl rfl rfl
          have lY_0 := HYw8.out.lt 0 w2.heap.size (by simp) rfl
          have cY_0_0 := HYw8.out.cell 0 0 w2.heap.size _ _ _ rfl rfl rfl
          have cY_0_1 := HYw8.out.cell 0 1 w2.heap.size _ _ _ rfl rfl rfl
          have lM_0 := HMw8.out.lt 0 w4.heap.size (by simp) rfl
          have cM_0_0 := HMw8.out.cell 0 0 w4.heap.size _ _ _ rfl rfl rfl
          have cM_0_1 := HMw8.out.cell 0 1 w4.heap.size _ _ _ rfl rfl rfl
          have lM_1 := HMw8.out.lt 1 (w4.heap.size + 1) (by simp) rfl
          have cM_1_0 := HMw8.out.cell 1 0 (w4.heap.size + 1) _ _ _ rfl rfl rfl
          have cM_1_1 := HMw8.out.cell 1 1 (w4.heap.size + 1) _ _ _ rfl rfl rfl
          go_wp2_with fail
          refine (HC.out _ (HLa.out.below HG1w8.out.2.2)).mono ?_
          rintro e w9 ⟨rfl, hb⟩
          have HG1w9 := hide (HG1w8.out.on hb)
          have HXw9 := hide (HXw8.out.on hb)
          have HYw9 := hide (HYw8.out.on hb)
          have HMw9 := hide (HMw8.out.on hb)
          clear lG1_0 cG1_0_0 cG1_0_1 lG1_1 cG1_1_0 cG1_1_1 lX_0 cX_0_0 cX_0_1 lY_0 cY_0_0 cY_0_1 lM_0 cM_0_0 cM_0_1 lM_1 cM_1_0 cM_1_1
          clear hb HG1w8 HXw8 HYw8 HMw8
          have lG1_0 := HG1w9.out.lt 0 w.heap.size (by simp) rfl
          have cG1_0_0 := HG1w9.out.cell 0 0 w.heap.size _ _ _ rfl rfl rfl
          have cG1_0_1 := HG1w9.out.cell 0 1 w.heap.size _ _ _ rfl rfl rfl
          have lG1_1 := HG1w9.out.lt 1 (w.heap.size + 1) (by simp) rfl
          have cG1_1_0 := HG1w9.out.cell 1 0 (w.heap.size + 1) _ _ _ rfl rfl rfl
          have cG1_1_1 := HG1w9.out.cell 1 1 (w.heap.size + 1) _ _ _ rfl rfl rfl
          have lX_0 := HXw9.out.lt 0 w1.heap.size (by simp) rfl
          have cX_0_0 := HXw9.out.cell 0 0 w1.heap.size _ _ _ rfl rfl rfl
          have cX_0_1 := HXw9.out.cell 0 1 w1.heap.size _ _ _ rfl rfl rfl
          have lY_0 := HYw9.out.lt 0 w2.heap.size (by simp) rfl
          have cY_0_0 := HYw9.out.cell 0 0 w2.heap.size _ _ _ rfl rfl rfl
          have cY_0_1 := HYw9.out.cell 0 1 w2.heap.size _ _ _ rfl rfl rfl
          have lM_0 := HMw9.out.lt 0 w4.heap.size (by simp) rfl
          have cM_0_0 := HMw9.out.cell 0 0 w4.heap.size _ _ _ rfl rfl rfl
          have cM_0_1 := HMw9.out.cell 0 1 w4.heap.size _ _ _ rfl rfl rfl
          have lM_1 := HMw9.out.lt 1 (w4.heap.size + 1) (by simp) rfl
          have cM_1_0 := HMw9.out.cell 1 0 (w4.heap.size + 1) _ _ _ rfl rfl rfl
          have cM_1_1 := HMw9.out.cell 1 1 (w4.heap.size + 1) _ _ _ rfl rfl rfl
          go_wp2_with fail
          refine (deniedIs_err _ ox none cx 0 0 0 _ (by decide)).mono ?_
          rintro e w10 ⟨rfl, hb⟩
          have HG1w10 := hide (HG1w9.out.on hb)
          have HXw10 := hide (HXw9.out.on hb)
          have HYw10 := hide (HYw9.out.on hb)
          have HMw10 := hide (HMw9.out.on hb)
          clear lG1_0 cG1_0_0 cG1_0_1 lG1_1 cG1_1_0 cG1_1_1 lX_0 cX_0_0 cX_0_1 lY_0 cY_0_0 cY_0_1 lM_0 cM_0_0 cM_0_1 lM_1 cM_1_0 cM_1_1
          clear hb HG1w9 HXw9 HYw9 HMw9
          have lG1_0 := HG1w10.out.lt 0 w.heap.size (by simp) rfl
          have cG1_0_0 := HG1w10.out.cell 0 0 w.heap.size _ _ _ rfl rfl rfl
          have cG1_0_1 := HG1w10.out.cell 0 1 w.heap.size _ _ _ rfl rfl rfl
          have lG1_1 := HG1w10.out.lt 1 (w.heap.size + 1) (by simp) rfl
          have cG1_1_0 := HG1w10.out.cell 1 0 (w.heap.size + 1) _ _ _ rfl rfl rfl
          have cG1_1_1 := HG1w10.out.cell 1 1 (w.heap.size + 1) _ _ _ rfl rfl rfl
          have lX_0 := HXw10.out.lt 0 w1.heap.size (by simp) rfl
          have cX_0_0 := HXw10.out.cell 0 0 w1.heap.size _ _ _ rfl rfl rfl
          have cX_0_1 := HXw10.out.cell 0 1 w1.heap.size _ _ _ rfl rfl rfl
          have lY_0 := HYw10.out.lt 0 w2.heap.size (by simp) rfl
          have cY_0_0 := HYw10.out.cell 0 0 w2.heap.size _ _ _ rfl rfl rfl
          have cY_0_1 := HYw10.out.cell 0 1 w2.heap.size _ _ _ rfl rfl rfl
          have lM_0 := HMw10.out.lt 0 w4.heap.size (by simp) rfl
          have cM_0_0 := HMw10.out.cell 0 0 w4.heap.size _ _ _ rfl rfl rfl
          have cM_0_1 := HMw10.out.cell 0 1 w4.heap.size _ _ _ rfl rfl rfl
          have lM_1 := HMw10.out.lt 1 (w4.heap.size + 1) (by simp) rfl
          have cM_1_0 := HMw10.out.cell 1 0 (w4.heap.size + 1) _ _ _ rfl rfl rfl
          have cM_1_1 := HMw10.out.cell 1 1 (w4.heap.size + 1) _ _ _ rfl rfl rfl
          go_wp2_with fail
          refine (HDy.out _ on ob cn cb (HY.out.below HYw10.out.2.2) (HLb.out.below HG1w10.out.2.2)).mono ?_
          rintro e w11 ⟨rfl, hb⟩
          have HG1w11 := hide (HG1w10.out.on hb)
          have HXw11 := hide (HXw10.out.on hb)
          have HYw11 := hide (HYw10.out.on hb)
          have HMw11 := hide (HMw10.out.on hb)
          clear lG1_0 cG1_0_0 cG1_0_1 lG1_1 cG1_1_0 cG1_1_1 lX_0 cX_0_0 cX_0_1 lY_0 cY_0_0 cY_0_1 lM_0 cM_0_0 cM_0_1 lM_1 cM_1_0 cM_1_1
          clear hb HG1w10 HXw10 HYw10 HMw10
          have lG1_0 := HG1w11.out.lt 0 w.heap.size (by simp) rfl
          have cG1_0_0 := HG1w11.out.cell 0 0 w.heap.size _ _ _ rfl rfl rfl
          have cG1_0_1 := HG1w11.out.cell 0 1 w.heap.size _ _ _ rfl rfl rfl
          have lG1_1 := HG1w11.out.lt 1 (w.heap.size + 1) (by simp) rfl
          have cG1_1_0 := HG1w11.out.cell 1 0 (w.heap.size + 1) _ _ _ rfl rfl rfl
          have cG1_1_1 := HG1w11.out.cell 1 1 (w.heap.size + 1) _ _ _ rfl rfl rfl
          have lX_0 := HXw11.out.lt 0 w1.heap.size (by simp) rfl
          have cX_0_0 := HXw11.out.cell 0 0 w1.heap.size _ _ _ rfl rfl rfl
          have cX_0_1 := HXw11.out.cell 0 1 w1.heap.size _ _ _ rfl rfl rfl
          have lY_0 := HYw11.out.lt 0 w2.heap.size (by simp) rfl
          have cY_0_0 := HYw11.out.cell 0 0 w2.heap.size _ _ _ rfl rfl rfl
          have cY_0_1 := HYw11.out.cell 0 1 w2.heap.size _ _ _ rfl rfl rfl
          have lM_0 := HMw11.out.lt 0 w4.heap.size (by simp) rfl
          have cM_0_0 := HMw11.out.cell 0 0 w4.heap.size _ _ _ rfl rfl rfl
          have cM_0_1 := HMw11.out.cell 0 1 w4.heap.size _ _ _ rfl rfl rfl
          have lM_1 := HMw11.out.lt 1 (w4.heap.size + 1) (by simp) rfl
          have cM_1_0 := HMw11.out.cell 1 0 (w4.heap.size + 1) _ _ _ rfl rfl rfl
          have cM_1_1 := HMw11.out.cell 1 1 (w4.heap.size + 1) _ _ _ rfl rfl rfl
          go_wp2_with fail
          go_ret
          exact ⟨by first | rfl | simp, HG1w11.out.2.2⟩
        · rw [if_neg hlt, if_neg hlt] at HN
          rw [if_neg hlt] at HW hNl
          have HDy := hide (fun W o o' c c' (h : IntsAt W o La) (h' : IntsAt W o' La) => deniedIs_ok va La o o' c c' W h h' hNl)
          clear hlt hub hNl HNl HM
          go_enter Try.func5, Try.ntmps5
          go_wp2_with fail
          have HG1 := hide (((Blks.nil w).more (.cells #[.int .i64 va, .slice oa La.length ca] 45) (by simp)).more (.cells #[.int .i64 vb, .slice ob Lb.length cb] 45) (by simp))
          refine (HA.out _ (HLa.out.below HG1.out.2.2)).mono ?_
          rintro e w1 ⟨⟨x, rfl, ⟨-, rfl, ox, cx, rfl, hx⟩⟩, hb⟩
          have HG1w1 := hide (HG1.out.on hb)
          have HX := hide hx.1
          clear hx
          clear hb HG1
          have lG1_0 := HG1w1.out.lt 0 w.heap.size (by simp) rfl
          have cG1_0_0 := HG1w1.out.cell 0 0 w.heap.size _ _ _ rfl rfl rfl
          have cG1_0_1 := HG1w1.out.cell 0 1 w.heap.size _ _ _ rfl rfl rfl
          have lG1_1 := HG1w1.out.lt 1 (w.heap.size + 1) (by simp) rfl
          have cG1_1_0 := HG1w1.out.cell 1 0 (w.heap.size + 1) _ _ _ rfl rfl rfl
          have cG1_1_1 := HG1w1.out.cell 1 1 (w.heap.size + 1) _ _ _ rfl rfl rfl
          go_wp2_with fail
          have HX := hide ((Blks.nil w1).more (.cells #[.int .i64 0, .slice ox 0 cx] 45) (by simp))
          refine (HN.out _ (HLa.out.below (HG1w1.out.on HX.out.2.2).2.2) (HLb.out.below (HG1w1.out.on HX.out.2.2).2.2)).mono ?_
          rintro e w2 ⟨⟨x, rfl, ⟨-, rfl, on, cn, rfl, hx⟩⟩, hb⟩
          have HXw2 := hide (HX.out.on hb)
          have HG1w2 := hide (HG1w1.out.on HXw2.out.2.2)
          have HY := hide hx.1
          clear hx
          clear lG1_0 cG1_0_0 cG1_0_1 lG1_1 cG1_1_0 cG1_1_1
          clear hb HG1w1 HX
          have lG1_0 := HG1w2.out.lt 0 w.heap.size (by simp) rfl
          have cG1_0_0 := HG1w2.out.cell 0 0 w.heap.size _ _ _ rfl rfl rfl
          have cG1_0_1 := HG1w2.out.cell 0 1 w.heap.size _ _ _ rfl rfl rfl
          have lG1_1 := HG1w2.out.lt 1 (w.heap.size + 1) (by simp) rfl
          have cG1_1_0 := HG1w2.out.cell 1 0 (w.heap.size + 1) _ _ _ rfl rfl rfl
          have cG1_1_1 := HG1w2.out.cell 1 1 (w.heap.size + 1) _ _ _ rfl rfl rfl
          have lX_0 := HXw2.out.lt 0 w1.heap.size (by simp) rfl
          have cX_0_0 := HXw2.out.cell 0 0 w1.heap.size _ _ _ rfl rfl rfl
          have cX_0_1 := HXw2.out.cell 0 1 w1.heap.size _ _ _ rfl rfl rfl
          go_wp2_with fail
          have HY := hide ((Blks.nil w2).more (.cells #[.int .i64 va, .slice on La.length cn] 45) (by simp))
          refine (HH.out _ (HLa.out.below (HG1w2.out.on HY.out.2.2).2.2)).mono ?_
          rintro e w3 ⟨rfl, hb⟩
          have HYw3 := hide (HY.out.on hb)
          have HG1w3 := hide (HG1w2.out.on HYw3.out.2.2)
          have HXw3 := hide (HXw2.out.on HYw3.out.2.2)
          clear lG1_0 cG1_0_0 cG1_0_1 lG1_1 cG1_1_0 cG1_1_1 lX_0 cX_0_0 cX_0_1
          clear hb HG1w2 HXw2 HY
          have lG1_0 := HG1w3.out.lt 0 w.heap.size (by simp) rfl
          have cG1_0_0 := HG1w3.out.cell 0 0 w.heap.size _ _ _ rfl rfl rfl
          have cG1_0_1 := HG1w3.out.cell 0 1 w.heap.size _ _ _ rfl rfl rfl
          have lG1_1 := HG1w3.out.lt 1 (w.heap.size + 1) (by simp) rfl
          have cG1_1_0 := HG1w3.out.cell 1 0 (w.heap.size + 1) _ _ _ rfl rfl rfl
          have cG1_1_1 := HG1w3.out.cell 1 1 (w.heap.size + 1) _ _ _ rfl rfl rfl
          have lX_0 := HXw3.out.lt 0 w1.heap.size (by simp) rfl
          have cX_0_0 := HXw3.out.cell 0 0 w1.heap.size _ _ _ rfl rfl rfl
          have cX_0_1 := HXw3.out.cell 0 1 w1.heap.size _ _ _ rfl rfl rfl
          have lY_0 := HYw3.out.lt 0 w2.heap.size (by simp) rfl
          have cY_0_0 := HYw3.out.cell 0 0 w2.heap.size _ _ _ rfl rfl rfl
          have cY_0_1 := HYw3.out.cell 0 1 w2.heap.size _ _ _ rfl rfl rfl
          go_wp2_with fail
          refine (HCa.out _ (HLa.out.below HG1w3.out.2.2)).mono ?_
          rintro e w4 ⟨rfl, hb⟩
          have HG1w4 := hide (HG1w3.out.on hb)
          have HXw4 := hide (HXw3.out.on hb)
          have HYw4 := hide (HYw3.out.on hb)
          clear lG1_0 cG1_0_0 cG1_0_1 lG1_1 cG1_1_0 cG1_1_1 lX_0 cX_0_0 cX_0_1 lY_0 cY_0_0 cY_0_1
          clear hb HG1w3 HXw3 HYw3
          have lG1_0 := HG1w4.out.lt 0 w.heap.size (by simp) rfl
          have cG1_0_0 := HG1w4.out.cell 0 0 w.heap.size _ _ _ rfl rfl rfl
          have cG1_0_1 := HG1w4.out.cell 0 1 w.heap.size _ _ _ rfl rfl rfl
          have lG1_1 := HG1w4.out.lt 1 (w.heap.size + 1) (by simp) rfl
          have cG1_1_0 := HG1w4.out.cell 1 0 (w.heap.size + 1) _ _ _ rfl rfl rfl
          have cG1_1_1 := HG1w4.out.cell 1 1 (w.heap.size + 1) _ _ _ rfl rfl rfl
          have lX_0 := HXw4.out.lt 0 w1.heap.size (by simp) rfl
          have cX_0_0 := HXw4.out.cell 0 0 w1.heap.size _ _ _ rfl rfl rfl
          have cX_0_1 := HXw4.out.cell 0 1 w1.heap.size _ _ _ rfl rfl rfl
          have lY_0 := HYw4.out.lt 0 w2.heap.size (by simp) rfl
          have cY_0_0 := HYw4.out.cell 0 0 w2.heap.size _ _ _ rfl rfl rfl
          have cY_0_1 := HYw4.out.cell 0 1 w2.heap.size _ _ _ rfl rfl rfl
          go_wp2_with fail
          clear lG1_0 cG1_0_0 cG1_0_1 lG1_1 cG1_1_0 cG1_1_1 lX_0 cX_0_0 cX_0_1 lY_0 cY_0_0 cY_0_1
          have zG1 := HG1w4.out.2.1
          simp only [List.length_append, List.length_cons, List.length_nil] at zG1
          have zX := HXw4.out.2.1
          simp only [List.length_append, List.length_cons, List.length_nil] at zX
          have zY := HYw4.out.2.1
          simp only [List.length_append, List.length_cons, List.length_nil] at zY
          have HM := hide (((Blks.nil w4).more (.cells #[.int .i64 0, .slice none 0 0] 45) (by simp)).more (.cells #[.int .i64 0, .slice none 0 0] 45) (by simp))
          refine (HE1.out _ (HLa.out.below (HG1w4.out.on HM.out.2.2).2.2) (by decide)).mono ?_
          rintro e w5 ⟨rfl, hb⟩
          have HMw5 := hide (HM.out.on hb)
          have HG1w5 := hide (HG1w4.out.on HMw5.out.2.2)
          have HXw5 := hide (HXw4.out.on HMw5.out.2.2)
          have HYw5 := hide (HYw4.out.on HMw5.out.2.2)
          clear hb HG1w4 HXw4 HYw4 HM
          have lG1_0 := HG1w5.out.lt 0 w.heap.size (by simp) rfl
          have cG1_0_0 := HG1w5.out.cell 0 0 w.heap.size _ _ _ rfl rfl rfl
          have cG1_0_1 := HG1w5.out.cell 0 1 w.heap.size _ _ _ rfl rfl rfl
          have lG1_1 := HG1w5.out.lt 1 (w.heap.size + 1) (by simp) rfl
          have cG1_1_0 := HG1w5.out.cell 1 0 (w.heap.size + 1) _ _ _ rfl rfl rfl
          have cG1_1_1 := HG1w5.out.cell 1 1 (w.heap.size + 1) _ _ _ rfl rfl rfl
          have lX_0 := HXw5.out.lt 0 w1.heap.size (by simp) rfl
          have cX_0_0 := HXw5.out.cell 0 0 w1.heap.size _ _ _ rfl rfl rfl
          have cX_0_1 := HXw5.out.cell 0 1 w1.heap.size _ _ _ rfl rfl rfl
          have lY_0 := HYw5.out.lt 0 w2.heap.size (by simp) rfl
          have cY_0_0 := HYw5.out.cell 0 0 w2.heap.size _ _ _ rfl rfl rfl
          have cY_0_1 := HYw5.out.cell 0 1 w2.heap.size _ _ _ rfl rfl rfl
          have lM_0 := HMw5.out.lt 0 w4.heap.size (by simp) rfl
          have cM_0_0 := HMw5.out.cell 0 0 w4.heap.size _ _ _ rfl rfl rfl
          have fM_0_0 := HMw5.out.frozen 0 0 w4.heap.size _ _ rfl rfl
          have cM_0_1 := HMw5.out.cell 0 1 w4.heap.size _ _ _ rfl rfl rfl
          have fM_0_1 := HMw5.out.frozen 0 1 w4.heap.size _ _ rfl rfl
          have lM_1 := HMw5.out.lt 1 (w4.heap.size + 1) (by simp) rfl
          have cM_1_0 := HMw5.out.cell 1 0 (w4.heap.size + 1) _ _ _ rfl rfl rfl
          have fM_1_0 := HMw5.out.frozen 1 0 (w4.heap.size + 1) _ _ rfl rfl
          have cM_1_1 := HMw5.out.cell 1 1 (w4.heap.size + 1) _ _ _ rfl rfl rfl
          have fM_1_1 := HMw5.out.frozen 1 1 (w4.heap.size + 1) _ _ rfl rfl
          go_wp2_with fail
          clear lG1_0 cG1_0_0 cG1_0_1 lG1_1 cG1_1_0 cG1_1_1 lX_0 cX_0_0 cX_0_1 lY_0 cY_0_0 cY_0_1 lM_0 cM_0_0 fM_0_0 cM_0_1 fM_0_1 lM_1 cM_1_0 fM_1_0 cM_1_1 fM_1_1
          have HG1w5s := hide ((HG1w5.out.set ⟨w4.heap.size, 0, none⟩ (by simp; try omega) (.int .i64 0)).set ⟨w4.heap.size, 1, none⟩ (by simp; try omega) (.slice none 0 0))
          have HXw5s := hide ((HXw5.out.set ⟨w4.heap.size, 0, none⟩ (by simp; try omega) (.int .i64 0)).set ⟨w4.heap.size, 1, none⟩ (by simp; try omega) (.slice none 0 0))
          have HYw5s := hide ((HYw5.out.set ⟨w4.heap.size, 0, none⟩ (by simp; try omega) (.int .i64 0)).set ⟨w4.heap.size, 1, none⟩ (by simp; try omega) (.slice none 0 0))
          have HMw5s : Hid (Blks w4 ((w5.setCell ⟨w4.heap.size, 0, none⟩ (.int .i64 0)).setCell ⟨w4.heap.size, 1, none⟩ (.slice none 0 0)) [.cells #[.int .i64 0, .slice none 0 0] 45, .cells #[.int .i64 0, .slice none 0 0] 45]) := hide ((HMw5.out.put 0 0 w4.heap.size _ _ (.int .i64 0) rfl rfl).put 0 1 w4.heap.size _ _ (.slice none 0 0) rfl rfl)
          clear HG1w5 HXw5 HYw5 HMw5
          generalize ((w5.setCell ⟨w4.heap.size, 0, none⟩ (.int .i64 0)).setCell ⟨w4.heap.size, 1, none⟩ (.slice none 0 0)) = w5s at *
          refine (HCb.out _ (HLb.out.below HG1w5s.out.2.2)).mono ?_
          rintro e w6 ⟨rfl, hb⟩
          have HG1w6 := hide (HG1w5s.out.on hb)
          have HXw6 := hide (HXw5s.out.on hb)
          have HYw6 := hide (HYw5s.out.on hb)
          have HMw6 := hide (HMw5s.out.on hb)
          clear hb HG1w5s HXw5s HYw5s HMw5s
          have lG1_0 := HG1w6.out.lt 0 w.heap.size (by simp) rfl
          have cG1_0_0 := HG1w6.out.cell 0 0 w.heap.size _ _ _ rfl rfl rfl
          have cG1_0_1 := HG1w6.out.cell 0 1 w.heap.size _ _ _ rfl rfl rfl
          have lG1_1 := HG1w6.out.lt 1 (w.heap.size + 1) (by simp) rfl
          have cG1_1_0 := HG1w6.out.cell 1 0 (w.heap.size + 1) _ _ _ rfl rfl rfl
          have cG1_1_1 := HG1w6.out.cell 1 1 (w.heap.size + 1) _ _ _ rfl rfl rfl
          have lX_0 := HXw6.out.lt 0 w1.heap.size (by simp) rfl
          have cX_0_0 := HXw6.out.cell 0 0 w1.heap.size _ _ _ rfl rfl rfl
          have cX_0_1 := HXw6.out.cell 0 1 w1.heap.size _ _ _ rfl rfl rfl
          have lY_0 := HYw6.out.lt 0 w2.heap.size (by simp) rfl
          have cY_0_0 := HYw6.out.cell 0 0 w2.heap.size _ _ _ rfl rfl rfl
          have cY_0_1 := HYw6.out.cell 0 1 w2.heap.size _ _ _ rfl rfl rfl
          have lM_0 := HMw6.out.lt 0 w4.heap.size (by simp) rfl
          have cM_0_0 := HMw6.out.cell 0 0 w4.heap.size _ _ _ rfl rfl rfl
          have cM_0_1 := HMw6.out.cell 0 1 w4.heap.size _ _ _ rfl rfl rfl
          have lM_1 := HMw6.out.lt 1 (w4.heap.size + 1) (by simp) rfl
          have cM_1_0 := HMw6.out.cell 1 0 (w4.heap.size + 1) _ _ _ rfl rfl rfl
          have fM_1_0 := HMw6.out.frozen 1 0 (w4.heap.size + 1) _ _ rfl rfl
          have cM_1_1 := HMw6.out.cell 1 1 (w4.heap.size + 1) _ _ _ rfl rfl rfl
          have fM_1_1 := HMw6.out.frozen 1 1 (w4.heap.size + 1) _ _ rfl rfl
          go_wp2_with fail
          refine (HW.out _).mono ?_
          rintro e w7 ⟨rfl, hb⟩
          have HG1w7 := hide (HG1w6.out.on hb)
          have HXw7 := hide (HXw6.out.on hb)
          have HYw7 := hide (HYw6.out.on hb)
          have HMw7 := hide (HMw6.out.on hb)
          clear lG1_0 cG1_0_0 cG1_0_1 lG1_1 cG1_1_0 cG1_1_1 lX_0 cX_0_0 cX_0_1 lY_0 cY_0_0 cY_0_1 lM_0 cM_0_0 cM_0_1 lM_1 cM_1_0 fM_1_0 cM_1_1 fM_1_1
          clear hb HG1w6 HXw6 HYw6 HMw6
          have lG1_0 := HG1w7.out.lt 0 w.heap.size (by simp) rfl
          have cG1_0_0 := HG1w7.out.cell 0 0 w.heap.size _ _ _ rfl rfl rfl
          have cG1_0_1 := HG1w7.out.cell 0 1 w.heap.size _ _ _ rfl rfl rfl
          have lG1_1 := HG1w7.out.lt 1 (w.heap.size + 1) (by simp) rfl
          have cG1_1_0 := HG1w7.out.cell 1 0 (w.heap.size + 1) _ _ _ rfl rfl rfl
          have cG1_1_1 := HG1w7.out.cell 1 1 (w.heap.size + 1) _ _ _ rfl rfl rfl
          have lX_0 := HXw7.out.lt 0 w1.heap.size (by simp) rfl
          have cX_0_0 := HXw7.out.cell 0 0 w1.heap.size _ _ _ rfl rfl rfl
          have cX_0_1 := HXw7.out.cell 0 1 w1.heap.size _ _ _ rfl rfl rfl
          have lY_0 := HYw7.out.lt 0 w2.heap.size (by simp) rfl
          have cY_0_0 := HYw7.out.cell 0 0 w2.heap.size _ _ _ rfl rfl rfl
          have cY_0_1 := HYw7.out.cell 0 1 w2.heap.size _ _ _ rfl rfl rfl
          have lM_0 := HMw7.out.lt 0 w4.heap.size (by simp) rfl
          have cM_0_0 := HMw7.out.cell 0 0 w4.heap.size _ _ _ rfl rfl rfl
          have cM_0_1 := HMw7.out.cell 0 1 w4.heap.size _ _ _ rfl rfl rfl
          have lM_1 := HMw7.out.lt 1 (w4.heap.size + 1) (by simp) rfl
          have cM_1_0 := HMw7.out.cell 1 0 (w4.heap.size + 1) _ _ _ rfl rfl rfl
          have fM_1_0 := HMw7.out.frozen 1 0 (w4.heap.size + 1) _ _ rfl rfl
          have cM_1_1 := HMw7.out.cell 1 1 (w4.heap.size + 1) _ _ _ rfl rfl rfl
          have fM_1_1 := HMw7.out.frozen 1 1 (w4.heap.size + 1) _ _ rfl rfl
          go_wp2_with fail
          clear lG1_0 cG1_0_0 cG1_0_1 lG1_1 cG1_1_0 cG1_1_1 lX_0 cX_0_0 cX_0_1 lY_0 cY_0_0 cY_0_1 lM_0 cM_0_0 cM_0_1 lM_1 cM_1_0 fM_1_0 cM_1_1 fM_1_1
          have HG1w7s := hide ((HG1w7.out.set ⟨w4.heap.size + 1, 0, none⟩ (by simp; try omega) (.int .i64 va)).set ⟨w4.heap.size + 1, 1, none⟩ (by simp; try omega) (.slice oa La.length ca))
          have HXw7s := hide ((HXw7.out.set ⟨w4.heap.size + 1, 0, none⟩ (by simp; try omega) (.int .i64 va)).set ⟨w4.heap.size + 1, 1, none⟩ (by simp; try omega) (.slice oa La.length ca))
          have HYw7s := hide ((HYw7.out.set ⟨w4.heap.size + 1, 0, none⟩ (by simp; try omega) (.int .i64 va)).set ⟨w4.heap.size + 1, 1, none⟩ (by simp; try omega) (.slice oa La.length ca))
          have HMw7s : Hid (Blks w4 ((w7.setCell ⟨w4.heap.size + 1, 0, none⟩ (.int .i64 va)).setCell ⟨w4.heap.size + 1, 1, none⟩ (.slice oa La.length ca)) [.cells #[.int .i64 0, .slice none 0 0] 45, .cells #[.int .i64 va, .slice oa La.length ca] 45]) := hide ((HMw7.out.put 1 0 (w4.heap.size + 1) _ _ (.int .i64 va) rfl rfl).put 1 1 (w4.heap.size + 1) _ _ (.slice oa La.length ca) rfl rfl)
          clear HG1w7 HXw7 HYw7 HMw7
          generalize ((w7.setCell ⟨w4.heap.size + 1, 0, none⟩ (.int .i64 va)).setCell ⟨w4.heap.size + 1, 1, none⟩ (.slice oa La.length ca)) = w7s at *
          refine (deniedBegun_any _).mono ?_
          rintro e w8 ⟨rfl, hb⟩
          have HG1w8 := hide (HG1w7s.out.on hb)
          have HXw8 := hide (HXw7s.out.on hb)
          have HYw8 := hide (HYw7s.out.on hb)
          have HMw8 := hide (HMw7s.out.on hb)
          clear hb HG1w7s HXw7s HYw7s HMw7s
          have lG1_0 := HG1w8.out.lt 0 w.heap.size (by simp) rfl
          have cG1_0_0 := HG1w8.out.cell 0 0 w.heap.size _ _ _ rfl rfl rfl
          have cG1_0_1 := HG1w8.out.cell 0 1 w.heap.size _ _ _ rfl rfl rfl
          have lG1_1 := HG1w8.out.lt 1 (w.heap.size + 1) (by simp) rfl
          have cG1_1_0 := HG1w8.out.cell 1 0 (w.heap.size + 1) _ _ _ rfl rfl rfl
          have cG1_1_1 := HG1w8.out.cell 1 1 (w.heap.size + 1) _ _ _ rfl rfl rfl
          have lX_0 := HXw8.out.lt 0 w1.heap.size (by simp) rfl
          have cX_0_0 := HXw8.out.cell 0 0 w1.heap.size _ _ _ rfl rfl rfl
          have cX_0_1 := HXw8.out.cell 0 1 w1.heap.size _ _ _ rfl rfl rfl
          have lY_0 := HYw8.out.lt 0 w2.heap.size (by simp) rfl
          have cY_0_0 := HYw8.out.cell 0 0 w2.heap.size _ _ _ rfl rfl rfl
          have cY_0_1 := HYw8.out.cell 0 1 w2.heap.size _ _ _ rfl rfl rfl
          have lM_0 := HMw8.out.lt 0 w4.heap.size (by simp) rfl
          have cM_0_0 := HMw8.out.cell 0 0 w4.heap.size _ _ _ rfl rfl rfl
          have cM_0_1 := HMw8.out.cell 0 1 w4.heap.size _ _ _ rfl rfl rfl
          have lM_1 := HMw8.out.lt 1 (w4.heap.size + 1) (by simp) rfl
          have cM_1_0 := HMw8.out.cell 1 0 (w4.heap.size + 1) _ _ _ rfl rfl rfl
          have cM_1_1 := HMw8.out.cell 1 1 (w4.heap.size + 1) _ _ _ rfl rfl rfl
          go_wp2_with fail
          refine (HC.out _ (HLa.out.below HG1w8.out.2.2)).mono ?_
          rintro e w9 ⟨rfl, hb⟩
          have HG1w9 := hide (HG1w8.out.on hb)
          have HXw9 := hide (HXw8.out.on hb)
          have HYw9 := hide (HYw8.out.on hb)
          have HMw9 := hide (HMw8.out.on hb)
          clear lG1_0 cG1_0_0 cG1_0_1 lG1_1 cG1_1_0 cG1_1_1 lX_0 cX_0_0 cX_0_1 lY_0 cY_0_0 cY_0_1 lM_0 cM_0_0 cM_0_1 lM_1 cM_1_0 cM_1_1
          clear hb HG1w8 HXw8 HYw8 HMw8
          have lG1_0 := HG1w9.out.lt 0 w.heap.size (by simp) rfl
          have cG1_0_0 := HG1w9.out.cell 0 0 w.heap.size _ _ _ rfl rfl rfl
          have cG1_0_1 := HG1w9.out.cell 0 1 w.heap.size _ _ _ rfl rfl rfl
          have lG1_1 := HG1w9.out.lt 1 (w.heap.size + 1) (by simp) rfl
          have cG1_1_0 := HG1w9.out.cell 1 0 (w.heap.size + 1) _ _ _ rfl rfl rfl
          have cG1_1_1 := HG1w9.out.cell 1 1 (w.heap.size + 1) _ _ _ rfl rfl rfl
          have lX_0 := HXw9.out.lt 0 w1.heap.size (by simp) rfl
          have cX_0_0 := HXw9.out.cell 0 0 w1.heap.size _ _ _ rfl rfl rfl
          have cX_0_1 := HXw9.out.cell 0 1 w1.heap.size _ _ _ rfl rfl rfl
          have lY_0 := HYw9.out.lt 0 w2.heap.size (by simp) rfl
          have cY_0_0 := HYw9.out.cell 0 0 w2.heap.size _ _ _ rfl rfl rfl
          have cY_0_1 := HYw9.out.cell 0 1 w2.heap.size _ _ _ rfl rfl rfl
          have lM_0 := HMw9.out.lt 0 w4.heap.size (by simp) rfl
          have cM_0_0 := HMw9.out.cell 0 0 w4.heap.size _ _ _ rfl rfl rfl
          have cM_0_1 := HMw9.out.cell 0 1 w4.heap.size _ _ _ rfl rfl rfl
          have lM_1 := HMw9.out.lt 1 (w4.heap.size + 1) (by simp) rfl
          have cM_1_0 := HMw9.out.cell 1 0 (w4.heap.size + 1) _ _ _ rfl rfl rfl
          have cM_1_1 := HMw9.out.cell 1 1 (w4.heap.size + 1) _ _ _ rfl rfl rfl
          go_wp2_with fail
          refine (deniedIs_err _ ox none cx 0 0 0 _ (by decide)).mono ?_
          rintro e w10 ⟨rfl, hb⟩
          have HG1w10 := hide (HG1w9.out.on hb)
          have HXw10 := hide (HXw9.out.on hb)
          have HYw10 := hide (HYw9.out.on hb)
          have HMw10 := hide (HMw9.out.on hb)
          clear lG1_0 cG1_0_0 cG1_0_1 lG1_1 cG1_1_0 cG1_1_1 lX_0 cX_0_0 cX_0_1 lY_0 cY_0_0 cY_0_1 lM_0 cM_0_0 cM_0_1 lM_1 cM_1_0 cM_1_1
          clear hb HG1w9 HXw9 HYw9 HMw9
          have lG1_0 := HG1w10.out.lt 0 w.heap.size (by simp) rfl
          have cG1_0_0 := HG1w10.out.cell 0 0 w.heap.size _ _ _ rfl rfl rfl
          have cG1_0_1 := HG1w10.out.cell 0 1 w.heap.size _ _ _ rfl rfl rfl
          have lG1_1 := HG1w10.out.lt 1 (w.heap.size + 1) (by simp) rfl
          have cG1_1_0 := HG1w10.out.cell 1 0 (w.heap.size + 1) _ _ _ rfl rfl rfl
          have cG1_1_1 := HG1w10.out.cell 1 1 (w.heap.size + 1) _ _ _ rfl rfl rfl
          have lX_0 := HXw10.out.lt 0 w1.heap.size (by simp) rfl
          have cX_0_0 := HXw10.out.cell 0 0 w1.heap.size _ _ _ rfl rfl rfl
          have cX_0_1 := HXw10.out.cell 0 1 w1.heap.size _ _ _ rfl rfl rfl
          have lY_0 := HYw10.out.lt 0 w2.heap.size (by simp) rfl
          have cY_0_0 := HYw10.out.cell 0 0 w2.heap.size _ _ _ rfl rfl rfl
          have cY_0_1 := HYw10.out.cell 0 1 w2.heap.size _ _ _ rfl rfl rfl
          have lM_0 := HMw10.out.lt 0 w4.heap.size (by simp) rfl
          have cM_0_0 := HMw10.out.cell 0 0 w4.heap.size _ _ _ rfl rfl rfl
          have cM_0_1 := HMw10.out.cell 0 1 w4.heap.size _ _ _ rfl rfl rfl
          have lM_1 := HMw10.out.lt 1 (w4.heap.size + 1) (by simp) rfl
          have cM_1_0 := HMw10.out.cell 1 0 (w4.heap.size + 1) _ _ _ rfl rfl rfl
          have cM_1_1 := HMw10.out.cell 1 1 (w4.heap.size + 1) _ _ _ rfl rfl rfl
          go_wp2_with fail
          refine (HDy.out _ on oa cn ca (HY.out.below HYw10.out.2.2) (HLa.out.below HG1w10.out.2.2)).mono ?_
          rintro e w11 ⟨rfl, hb⟩
          have HG1w11 := hide (HG1w10.out.on hb)
          have HXw11 := hide (HXw10.out.on hb)
          have HYw11 := hide (HYw10.out.on hb)
          have HMw11 := hide (HMw10.out.on hb)
          clear lG1_0 cG1_0_0 cG1_0_1 lG1_1 cG1_1_0 cG1_1_1 lX_0 cX_0_0 cX_0_1 lY_0 cY_0_0 cY_0_1 lM_0 cM_0_0 cM_0_1 lM_1 cM_1_0 cM_1_1
          clear hb HG1w10 HXw10 HYw10 HMw10
          have lG1_0 := HG1w11.out.lt 0 w.heap.size (by simp) rfl
          have cG1_0_0 := HG1w11.out.cell 0 0 w.heap.size _ _ _ rfl rfl rfl
          have cG1_0_1 := HG1w11.out.cell 0 1 w.heap.size _ _ _ rfl rfl rfl
          have lG1_1 := HG1w11.out.lt 1 (w.heap.size + 1) (by simp) rfl
          have cG1_1_0 := HG1w11.out.cell 1 0 (w.heap.size + 1) _ _ _ rfl rfl rfl
          have cG1_1_1 := HG1w11.out.cell 1 1 (w.heap.size + 1) _ _ _ rfl rfl rfl
          have lX_0 := HXw11.out.lt 0 w1.heap.size (by simp) rfl
          have cX_0_0 := HXw11.out.cell 0 0 w1.heap.size _ _ _ rfl rfl rfl
          have cX_0_1 := HXw11.out.cell 0 1 w1.heap.size _ _ _ rfl rfl rfl
          have lY_0 := HYw11.out.lt 0 w2.heap.size (by simp) rfl
          have cY_0_0 := HYw11.out.cell 0 0 w2.heap.size _ _ _ rfl rfl rfl
          have cY_0_1 := HYw11.out.cell 0 1 w2.heap.size _ _ _ rfl rfl rfl
          have lM_0 := HMw11.out.lt 0 w4.heap.size (by simp) rfl
          have cM_0_0 := HMw11.out.cell 0 0 w4.heap.size _ _ _ rfl rfl rfl
          have cM_0_1 := HMw11.out.cell 0 1 w4.heap.size _ _ _ rfl rfl rfl
          have lM_1 := HMw11.out.lt 1 (w4.heap.size + 1) (by simp) rfl
          have cM_1_0 := HMw11.out.cell 1 0 (w4.heap.size + 1) _ _ _ rfl rfl rfl
          have cM_1_1 := HMw11.out.cell 1 1 (w4.heap.size + 1) _ _ _ rfl rfl rfl
          go_wp2_with fail
          go_ret
          exact ⟨by first | rfl | simp, HG1w11.out.2.2⟩
      · rw [if_neg hub, if_neg hub] at HN
        have hub' : (chkD vb Lb == 0) = false := by simpa using hub
        generalize chkD vb Lb = Eb at *
        clear HNl HM
        go_enter Try.func5, Try.ntmps5
        go_wp2_with fail
        have HG1 := hide (((Blks.nil w).more (.cells #[.int .i64 va, .slice oa La.length ca] 45) (by simp)).more (.cells #[.int .i64 vb, .slice ob Lb.length cb] 45) (by simp))
        refine (HA.out _ (HLa.out.below HG1.out.2.2)).mono ?_
        rintro e w1 ⟨⟨x, rfl, ⟨-, rfl, ox, cx, rfl, hx⟩⟩, hb⟩
        have HG1w1 := hide (HG1.out.on hb)
        have HX := hide hx.1
        clear hx
        clear hb HG1
        have lG1_0 := HG1w1.out.lt 0 w.heap.size (by simp) rfl
        have cG1_0_0 := HG1w1.out.cell 0 0 w.heap.size _ _ _ rfl rfl rfl
        have cG1_0_1 := HG1w1.out.cell 0 1 w.heap.size _ _ _ rfl rfl rfl
        have lG1_1 := HG1w1.out.lt 1 (w.heap.size + 1) (by simp) rfl
        have cG1_1_0 := HG1w1.out.cell 1 0 (w.heap.size + 1) _ _ _ rfl rfl rfl
        have cG1_1_1 := HG1w1.out.cell 1 1 (w.heap.size + 1) _ _ _ rfl rfl rfl
        go_wp2_with fail
        have HX := hide ((Blks.nil w1).more (.cells #[.int .i64 0, .slice ox 0 cx] 45) (by simp))
        refine (HN.out _ (HLa.out.below (HG1w1.out.on HX.out.2.2).2.2) (HLb.out.below (HG1w1.out.on HX.out.2.2).2.2)).mono ?_
        rintro e w2 ⟨⟨x, rfl, ⟨-, rfl, on, cn, rfl, hx⟩⟩, hb⟩
        have HXw2 := hide (HX.out.on hb)
        have HG1w2 := hide (HG1w1.out.on HXw2.out.2.2)
        have HY := hide hx.1
        clear hx
        clear lG1_0 cG1_0_0 cG1_0_1 lG1_1 cG1_1_0 cG1_1_1
        clear hb HG1w1 HX
        have lG1_0 := HG1w2.out.lt 0 w.heap.size (by simp) rfl
        have cG1_0_0 := HG1w2.out.cell 0 0 w.heap.size _ _ _ rfl rfl rfl
        have cG1_0_1 := HG1w2.out.cell 0 1 w.heap.size _ _ _ rfl rfl rfl
        have lG1_1 := HG1w2.out.lt 1 (w.heap.size + 1) (by simp) rfl
        have cG1_1_0 := HG1w2.out.cell 1 0 (w.heap.size + 1) _ _ _ rfl rfl rfl
        have cG1_1_1 := HG1w2.out.cell 1 1 (w.heap.size + 1) _ _ _ rfl rfl rfl
        have lX_0 := HXw2.out.lt 0 w1.heap.size (by simp) rfl
        have cX_0_0 := HXw2.out.cell 0 0 w1.heap.size _ _ _ rfl rfl rfl
        have cX_0_1 := HXw2.out.cell 0 1 w1.heap.size _ _ _ rfl rfl rfl
        go_wp2_with fail
        have HY := hide ((Blks.nil w2).more (.cells #[.int .i64 0, .slice on 0 cn] 45) (by simp))
        refine (HH.out _ (HLa.out.below (HG1w2.out.on HY.out.2.2).2.2)).mono ?_
        rintro e w3 ⟨rfl, hb⟩
        have HYw3 := hide (HY.out.on hb)
        have HG1w3 := hide (HG1w2.out.on HYw3.out.2.2)
        have HXw3 := hide (HXw2.out.on HYw3.out.2.2)
        clear lG1_0 cG1_0_0 cG1_0_1 lG1_1 cG1_1_0 cG1_1_1 lX_0 cX_0_0 cX_0_1
        clear hb HG1w2 HXw2 HY
        have lG1_0 := HG1w3.out.lt 0 w.heap.size (by simp) rfl
        have cG1_0_0 := HG1w3.out.cell 0 0 w.heap.size _ _ _ rfl rfl rfl
        have cG1_0_1 := HG1w3.out.cell 0 1 w.heap.size _ _ _ rfl rfl rfl
        have lG1_1 := HG1w3.out.lt 1 (w.heap.size + 1) (by simp) rfl
        have cG1_1_0 := HG1w3.out.cell 1 0 (w.heap.size + 1) _ _ _ rfl rfl rfl
        have cG1_1_1 := HG1w3.out.cell 1 1 (w.heap.size + 1) _ _ _ rfl rfl rfl
        have lX_0 := HXw3.out.lt 0 w1.heap.size (by simp) rfl
        have cX_0_0 := HXw3.out.cell 0 0 w1.heap.size _ _ _ rfl rfl rfl
        have cX_0_1 := HXw3.out.cell 0 1 w1.heap.size _ _ _ rfl rfl rfl
        have lY_0 := HYw3.out.lt 0 w2.heap.size (by simp) rfl
        have cY_0_0 := HYw3.out.cell 0 0 w2.heap.size _ _ _ rfl rfl rfl
        have cY_0_1 := HYw3.out.cell 0 1 w2.heap.size _ _ _ rfl rfl rfl
        go_wp2_with fail
        refine (HCa.out _ (HLa.out.below HG1w3.out.2.2)).mono ?_
        rintro e w4 ⟨rfl, hb⟩
        have HG1w4 := hide (HG1w3.out.on hb)
        have HXw4 := hide (HXw3.out.on hb)
        have HYw4 := hide (HYw3.out.on hb)
        clear lG1_0 cG1_0_0 cG1_0_1 lG1_1 cG1_1_0 cG1_1_1 lX_0 cX_0_0 cX_0_1 lY_0 cY_0_0 cY_0_1
        clear hb HG1w3 HXw3 HYw3
        have lG1_0 := HG1w4.out.lt 0 w.heap.size (by simp) rfl
        have cG1_0_0 := HG1w4.out.cell 0 0 w.heap.size _ _ _ rfl rfl rfl
        have cG1_0_1 := HG1w4.out.cell 0 1 w.heap.size _ _ _ rfl rfl rfl
        have lG1_1 := HG1w4.out.lt 1 (w.heap.size + 1) (by simp) rfl
        have cG1_1_0 := HG1w4.out.cell 1 0 (w.heap.size + 1) _ _ _ rfl rfl rfl
        have cG1_1_1 := HG1w4.out.cell 1 1 (w.heap.size + 1) _ _ _ rfl rfl rfl
        have lX_0 := HXw4.out.lt 0 w1.heap.size (by simp) rfl
        have cX_0_0 := HXw4.out.cell 0 0 w1.heap.size _ _ _ rfl rfl rfl
        have cX_0_1 := HXw4.out.cell 0 1 w1.heap.size _ _ _ rfl rfl rfl
        have lY_0 := HYw4.out.lt 0 w2.heap.size (by simp) rfl
        have cY_0_0 := HYw4.out.cell 0 0 w2.heap.size _ _ _ rfl rfl rfl
        have cY_0_1 := HYw4.out.cell 0 1 w2.heap.size _ _ _ rfl rfl rfl
        go_wp2_with fail
        clear lG1_0 cG1_0_0 cG1_0_1 lG1_1 cG1_1_0 cG1_1_1 lX_0 cX_0_0 cX_0_1 lY_0 cY_0_0 cY_0_1
        have zG1 := HG1w4.out.2.1
        simp only [List.length_append, List.length_cons, List.length_nil] at zG1
        have zX := HXw4.out.2.1
        simp only [List.length_append, List.length_cons, List.length_nil] at zX
        have zY := HYw4.out.2.1
        simp only [List.length_append, List.length_cons, List.length_nil] at zY
        have HM := hide (((Blks.nil w4).more (.cells #[.int .i64 0, .slice none 0 0] 45) (by simp)).more (.cells #[.int .i64 0, .slice none 0 0] 45) (by simp))
        refine (HE1.out _ (HLa.out.below (HG1w4.out.on HM.out.2.2).2.2) (by decide)).mono ?_
        rintro e w5 ⟨rfl, hb⟩
        have HMw5 := hide (HM.out.on hb)
        have HG1w5 := hide (HG1w4.out.on HMw5.out.2.2)
        have HXw5 := hide (HXw4.out.on HMw5.out.2.2)
        have HYw5 := hide (HYw4.out.on HMw5.out.2.2)
        clear hb HG1w4 HXw4 HYw4 HM
        have lG1_0 := HG1w5.out.lt 0 w.heap.size (by simp) rfl
        have cG1_0_0 := HG1w5.out.cell 0 0 w.heap.size _ _ _ rfl rfl rfl
        have cG1_0_1 := HG1w5.out.cell 0 1 w.heap.size _ _ _ rfl rfl rfl
        have lG1_1 := HG1w5.out.lt 1 (w.heap.size + 1) (by simp) rfl
        have cG1_1_0 := HG1w5.out.cell 1 0 (w.heap.size + 1) _ _ _ rfl rfl rfl
        have cG1_1_1 := HG1w5.out.cell 1 1 (w.heap.size + 1) _ _ _ rfl rfl rfl
        have lX_0 := HXw5.out.lt 0 w1.heap.size (by simp) rfl
        have cX_0_0 := HXw5.out.cell 0 0 w1.heap.size _ _ _ rfl rfl rfl
        have cX_0_1 := HXw5.out.cell 0 1 w1.heap.size _ _ _ rfl rfl rfl
        have lY_0 := HYw5.out.lt 0 w2.heap.size (by simp) rfl
        have cY_0_0 := HYw5.out.cell 0 0 w2.heap.size _ _ _ rfl rfl rfl
        have cY_0_1 := HYw5.out.cell 0 1 w2.heap.size _ _ _ rfl rfl rfl
        have lM_0 := HMw5.out.lt 0 w4.heap.size (by simp) rfl
        have cM_0_0 := HMw5.out.cell 0 0 w4.heap.size _ _ _ rfl rfl rfl
        have fM_0_0 := HMw5.out.frozen 0 0 w4.heap.size _ _ rfl rfl
        have cM_0_1 := HMw5.out.cell 0 1 w4.heap.size _ _ _ rfl rfl rfl
        have fM_0_1 := HMw5.out.frozen 0 1 w4.heap.size _ _ rfl rfl
        have lM_1 := HMw5.out.lt 1 (w4.heap.size + 1) (by simp) rfl
        have cM_1_0 := HMw5.out.cell 1 0 (w4.heap.size + 1) _ _ _ rfl rfl rfl
        have fM_1_0 := HMw5.out.frozen 1 0 (w4.heap.size + 1) _ _ rfl rfl
        have cM_1_1 := HMw5.out.cell 1 1 (w4.heap.size + 1) _ _ _ rfl rfl rfl
        have fM_1_1 := HMw5.out.frozen 1 1 (w4.heap.size + 1) _ _ rfl rfl
        go_wp2_with fail
        clear lG1_0 cG1_0_0 cG1_0_1 lG1_1 cG1_1_0 cG1_1_1 lX_0 cX_0_0 cX_0_1 lY_0 cY_0_0 cY_0_1 lM_0 cM_0_0 fM_0_0 cM_0_1 fM_0_1 lM_1 cM_1_0 fM_1_0 cM_1_1 fM_1_1
        have HG1w5s := hide ((HG1w5.out.set ⟨w4.heap.size, 0, none⟩ (by simp; try omega) (.int .i64 0)).set ⟨w4.heap.size, 1, none⟩ (by simp; try omega) (.slice none 0 0))
        have HXw5s := hide ((HXw5.out.set ⟨w4.heap.size, 0, none⟩ (by simp; try omega) (.int .i64 0)).set ⟨w4.heap.size, 1, none⟩ (by simp; try omega) (.slice none 0 0))
        have HYw5s := hide ((HYw5.out.set ⟨w4.heap.size, 0, none⟩ (by simp; try omega) (.int .i64 0)).set ⟨w4.heap.size, 1, none⟩ (by simp; try omega) (.slice none 0 0))
        have HMw5s : Hid (Blks w4 ((w5.setCell ⟨w4.heap.size, 0, none⟩ (.int .i64 0)).setCell ⟨w4.heap.size, 1, none⟩ (.slice none 0 0)) [.cells #[.int .i64 0, .slice none 0 0] 45, .cells #[.int .i64 0, .slice none 0 0] 45]) := hide ((HMw5.out.put 0 0 w4.heap.size _ _ (.int .i64 0) rfl rfl).put 0 1 w4.heap.size _ _ (.slice none 0 0) rfl rfl)
        clear HG1w5 HXw5 HYw5 HMw5
        generalize ((w5.setCell ⟨w4.heap.size, 0, none⟩ (.int .i64 0)).setCell ⟨w4.heap.size, 1, none⟩ (.slice none 0 0)) = w5s at *
        refine (HCb.out _ (HLb.out.below HG1w5s.out.2.2)).mono ?_
        rintro e w6 ⟨rfl, hb⟩
        have HG1w6 := hide (HG1w5s.out.on hb)
        have HXw6 := hide (HXw5s.out.on hb)
        have HYw6 := hide (HYw5s.out.on hb)
        have HMw6 := hide (HMw5s.out.on hb)
        clear hb HG1w5s HXw5s HYw5s HMw5s
        have lG1_0 := HG1w6.out.lt 0 w.heap.size (by simp) rfl
        have cG1_0_0 := HG1w6.out.cell 0 0 w.heap.size _ _ _ rfl rfl rfl
        have cG1_0_1 := HG1w6.out.cell 0 1 w.heap.size _ _ _ rfl rfl rfl
        have lG1_1 := HG1w6.out.lt 1 (w.heap.size + 1) (by simp) rfl
        have cG1_1_0 := HG1w6.out.cell 1 0 (w.heap.size + 1) _ _ _ rfl rfl rfl
        have cG1_1_1 := HG1w6.out.cell 1 1 (w.heap.size + 1) _ _ _ rfl rfl rfl
        have lX_0 := HXw6.out.lt 0 w1.heap.size (by simp) rfl
        have cX_0_0 := HXw6.out.cell 0 0 w1.heap.size _ _ _ rfl rfl rfl
        have cX_0_1 := HXw6.out.cell 0 1 w1.heap.size _ _ _ rfl rfl rfl
        have lY_0 := HYw6.out.lt 0 w2.heap.size (by simp) rfl
        have cY_0_0 := HYw6.out.cell 0 0 w2.heap.size _ _ _ rfl rfl rfl
        have cY_0_1 := HYw6.out.cell 0 1 w2.heap.size _ _ _ rfl rfl rfl
        have lM_0 := HMw6.out.lt 0 w4.heap.size (by simp) rfl
        have cM_0_0 := HMw6.out.cell 0 0 w4.heap.size _ _ _ rfl rfl rfl
        have cM_0_1 := HMw6.out.cell 0 1 w4.heap.size _ _ _ rfl rfl rfl
        have lM_1 := HMw6.out.lt 1 (w4.heap.size + 1) (by simp) rfl
        have cM_1_0 := HMw6.out.cell 1 0 (w4.heap.size + 1) _ _ _ rfl rfl rfl
        have fM_1_0 := HMw6.out.frozen 1 0 (w4.heap.size + 1) _ _ rfl rfl
        have cM_1_1 := HMw6.out.cell 1 1 (w4.heap.size + 1) _ _ _ rfl rfl rfl
        have fM_1_1 := HMw6.out.frozen 1 1 (w4.heap.size + 1) _ _ rfl rfl
        go_wp2_with fail
        refine (deniedBegun_any _).mono ?_
        rintro e w8 ⟨rfl, hb⟩
        have HG1w8 := hide (HG1w6.out.on hb)
        have HXw8 := hide (HXw6.out.on hb)
        have HYw8 := hide (HYw6.out.on hb)
        have HMw8 := hide (HMw6.out.on hb)
        clear lG1_0 cG1_0_0 cG1_0_1 lG1_1 cG1_1_0 cG1_1_1 lX_0 cX_0_0 cX_0_1 lY_0 cY_0_0 cY_0_1 lM_0 cM_0_0 cM_0_1 lM_1 cM_1_0 fM_1_0 cM_1_1 fM_1_1
        clear hb HG1w6 HXw6 HYw6 HMw6
        have lG1_0 := HG1w8.out.lt 0 w.heap.size (by simp) rfl
        have cG1_0_0 := HG1w8.out.cell 0 0 w.heap.size _ _ _ rfl rfl rfl
        have cG1_0_1 := HG1w8.out.cell 0 1 w.heap.size _ _ _ rfl rfl rfl
        have lG1_1 := HG1w8.out.lt 1 (w.heap.size + 1) (by simp) rfl
        have cG1_1_0 := HG1w8.out.cell 1 0 (w.heap.size + 1) _ _ _ rfl rfl rfl
        have cG1_1_1 := HG1w8.out.cell 1 1 (w.heap.size + 1) _ _ _ rfl rfl rfl
        have lX_0 := HXw8.out.lt 0 w1.heap.size (by simp) rfl
        have cX_0_0 := HXw8.out.cell 0 0 w1.heap.size _ _ _ rfl rfl rfl
        have cX_0_1 := HXw8.out.cell 0 1 w1.heap.size _ _ _ rfl rfl rfl
        have lY_0 := HYw8.out.lt 0 w2.heap.size (by simp) rfl
        have cY_0_0 := HYw8.out.cell 0 0 w2.heap.size _ _ _ rfl rfl rfl
        have cY_0_1 := HYw8.out.cell 0 1 w2.heap.size _ _ _ rfl rfl rfl
        have lM_0 := HMw8.out.lt 0 w4.heap.size (by simp) rfl
        have cM_0_0 := HMw8.out.cell 0 0 w4.heap.size _ _ _ rfl rfl rfl
        have cM_0_1 := HMw8.out.cell 0 1 w4.heap.size _ _ _ rfl rfl rfl
        have lM_1 := HMw8.out.lt 1 (w4.heap.size + 1) (by simp) rfl
        have cM_1_0 := HMw8.out.cell 1 0 (w4.heap.size + 1) _ _ _ rfl rfl rfl
        have cM_1_1 := HMw8.out.cell 1 1 (w4.heap.size + 1) _ _ _ rfl rfl rfl
        go_wp2_with fail
        refine (HC.out _ (HLa.out.below HG1w8.out.2.2)).mono ?_
        rintro e w9 ⟨rfl, hb⟩
        have HG1w9 := hide (HG1w8.out.on hb)
        have HXw9 := hide (HXw8.out.on hb)
        have HYw9 := hide (HYw8.out.on hb)
        have HMw9 := hide (HMw8.out.on hb)
        clear lG1_0 cG1_0_0 cG1_0_1 lG1_1 cG1_1_0 cG1_1_1 lX_0 cX_0_0 cX_0_1 lY_0 cY_0_0 cY_0_1 lM_0 cM_0_0 cM_0_1 lM_1 cM_1_0 cM_1_1
        clear hb HG1w8 HXw8 HYw8 HMw8
        have lG1_0 := HG1w9.out.lt 0 w.heap.size (by simp) rfl
        have cG1_0_0 := HG1w9.out.cell 0 0 w.heap.size _ _ _ rfl rfl rfl
        have cG1_0_1 := HG1w9.out.cell 0 1 w.heap.size _ _ _ rfl rfl rfl
        have lG1_1 := HG1w9.out.lt 1 (w.heap.size + 1) (by simp) rfl
        have cG1_1_0 := HG1w9.out.cell 1 0 (w.heap.size + 1) _ _ _ rfl rfl rfl
        have cG1_1_1 := HG1w9.out.cell 1 1 (w.heap.size + 1) _ _ _ rfl rfl rfl
        have lX_0 := HXw9.out.lt 0 w1.heap.size (by simp) rfl
        have cX_0_0 := HXw9.out.cell 0 0 w1.heap.size _ _ _ rfl rfl rfl
        have cX_0_1 := HXw9.out.cell 0 1 w1.heap.size _ _ _ rfl rfl rfl
        have lY_0 := HYw9.out.lt 0 w2.heap.size (by simp) rfl
        have cY_0_0 := HYw9.out.cell 0 0 w2.heap.size _ _ _ rfl rfl rfl
        have cY_0_1 := HYw9.out.cell 0 1 w2.heap.size _ _ _ rfl rfl rfl
        have lM_0 := HMw9.out.lt 0 w4.heap.size (by simp) rfl
        have cM_0_0 := HMw9.out.cell 0 0 w4.heap.size _ _ _ rfl rfl rfl
        have cM_0_1 := HMw9.out.cell 0 1 w4.heap.size _ _ _ rfl rfl rfl
        have lM_1 := HMw9.out.lt 1 (w4.heap.size + 1) (by simp) rfl
        have cM_1_0 := HMw9.out.cell 1 0 (w4.heap.size + 1) _ _ _ rfl rfl rfl
        have cM_1_1 := HMw9.out.cell 1 1 (w4.heap.size + 1) _ _ _ rfl rfl rfl
        go_wp2_with fail
        refine (deniedIs_err _ ox none cx 0 0 0 _ (by decide)).mono ?_
        rintro e w10 ⟨rfl, hb⟩
        have HG1w10 := hide (HG1w9.out.on hb)
        have HXw10 := hide (HXw9.out.on hb)
        have HYw10 := hide (HYw9.out.on hb)
        have HMw10 := hide (HMw9.out.on hb)
        clear lG1_0 cG1_0_0 cG1_0_1 lG1_1 cG1_1_0 cG1_1_1 lX_0 cX_0_0 cX_0_1 lY_0 cY_0_0 cY_0_1 lM_0 cM_0_0 cM_0_1 lM_1 cM_1_0 cM_1_1
        clear hb HG1w9 HXw9 HYw9 HMw9
        have lG1_0 := HG1w10.out.lt 0 w.heap.size (by simp) rfl
        have cG1_0_0 := HG1w10.out.cell 0 0 w.heap.size _ _ _ rfl rfl rfl
        have cG1_0_1 := HG1w10.out.cell 0 1 w.heap.size _ _ _ rfl rfl rfl
        have lG1_1 := HG1w10.out.lt 1 (w.heap.size + 1) (by simp) rfl
        have cG1_1_0 := HG1w10.out.cell 1 0 (w.heap.size + 1) _ _ _ rfl rfl rfl
        have cG1_1_1 := HG1w10.out.cell 1 1 (w.heap.size + 1) _ _ _ rfl rfl rfl
        have lX_0 := HXw10.out.lt 0 w1.heap.size (by simp) rfl
        have cX_0_0 := HXw10.out.cell 0 0 w1.heap.size _ _ _ rfl rfl rfl
        have cX_0_1 := HXw10.out.cell 0 1 w1.heap.size _ _ _ rfl rfl rfl
        have lY_0 := HYw10.out.lt 0 w2.heap.size (by simp) rfl
        have cY_0_0 := HYw10.out.cell 0 0 w2.heap.size _ _ _ rfl rfl rfl
        have cY_0_1 := HYw10.out.cell 0 1 w2.heap.size _ _ _ rfl rfl rfl
        have lM_0 := HMw10.out.lt 0 w4.heap.size (by simp) rfl
        have cM_0_0 := HMw10.out.cell 0 0 w4.heap.size _ _ _ rfl rfl rfl
        have cM_0_1 := HMw10.out.cell 0 1 w4.heap.size _ _ _ rfl rfl rfl
        have lM_1 := HMw10.out.lt 1 (w4.heap.size + 1) (by simp) rfl
        have cM_1_0 := HMw10.out.cell 1 0 (w4.heap.size + 1) _ _ _ rfl rfl rfl
        have cM_1_1 := HMw10.out.cell 1 1 (w4.heap.size + 1) _ _ _ rfl rfl rfl
        go_wp2_with fail
        refine (deniedIs_err _ on none cn 0 0 0 _ hub).mono ?_
        rintro e w11 ⟨rfl, hb⟩
        have HG1w11 := hide (HG1w10.out.on hb)
        have HXw11 := hide (HXw10.out.on hb)
        have HYw11 := hide (HYw10.out.on hb)
        have HMw11 := hide (HMw10.out.on hb)
        clear lG1_0 cG1_0_0 cG1_0_1 lG1_1 cG1_1_0 cG1_1_1 lX_0 cX_0_0 cX_0_1 lY_0 cY_0_0 cY_0_1 lM_0 cM_0_0 cM_0_1 lM_1 cM_1_0 cM_1_1
        clear hb HG1w10 HXw10 HYw10 HMw10
        have lG1_0 := HG1w11.out.lt 0 w.heap.size (by simp) rfl
        have cG1_0_0 := HG1w11.out.cell 0 0 w.heap.size _ _ _ rfl rfl rfl
        have cG1_0_1 := HG1w11.out.cell 0 1 w.heap.size _ _ _ rfl rfl rfl
        have lG1_1 := HG1w11.out.lt 1 (w.heap.size + 1) (by simp) rfl
        have cG1_1_0 := HG1w11.out.cell 1 0 (w.heap.size + 1) _ _ _ rfl rfl rfl
        have cG1_1_1 := HG1w11.out.cell 1 1 (w.heap.size + 1) _ _ _ rfl rfl rfl
        have lX_0 := HXw11.out.lt 0 w1.heap.size (by simp) rfl
        have cX_0_0 := HXw11.out.cell 0 0 w1.heap.size _ _ _ rfl rfl rfl
        have cX_0_1 := HXw11.out.cell 0 1 w1.heap.size _ _ _ rfl rfl rfl
        have lY_0 := HYw11.out.lt 0 w2.heap.size (by simp) rfl
        have cY_0_0 := HYw11.out.cell 0 0 w2.heap.size _ _ _ rfl rfl rfl
        have cY_0_1 := HYw11.out.cell 0 1 w2.heap.size _ _ _ rfl rfl rfl
        have lM_0 := HMw11.out.lt 0 w4.heap.size (by simp) rfl
        have cM_0_0 := HMw11.out.cell 0 0 w4.heap.size _ _ _ rfl rfl rfl
        have cM_0_1 := HMw11.out.cell 0 1 w4.heap.size _ _ _ rfl rfl rfl
        have lM_1 := HMw11.out.lt 1 (w4.heap.size + 1) (by simp) rfl
        have cM_1_0 := HMw11.out.cell 1 0 (w4.heap.size + 1) _ _ _ rfl rfl rfl
        have cM_1_1 := HMw11.out.cell 1 1 (w4.heap.size + 1) _ _ _ rfl rfl rfl
        go_wp2_with fail
        go_ret
        exact ⟨by first | rfl | simp, HG1w11.out.2.2⟩
    · rw [hw, if_pos rfl, decide_eq_true rfl, Bool.true_and] at HH
      clear hEs hw
      generalize hasI La id = Hs at *
      by_cases hE : addE va La id = 0
      · have hMl := HM.out hE
        rw [hE, if_pos rfl, if_pos rfl] at HA
        rw [hE] at HE0
        generalize addI La id = M at *
        have HDx := hide (fun W o o' c c' (h : IntsAt W o M) (h' : IntsV W (.slice o' M.length c') M) => deniedIs_ok (va + 1) M o o' c c' W h (by obtain ⟨a9, b9, e9, hI, -⟩ := h'; simp only [Value.slice.injEq] at e9; obtain ⟨rfl, -, -⟩ := e9; exact hI) hMl)
        clear hE hMl HE1
        by_cases hub : chkD vb Lb = 0
        · have hNl := HNl.out hub
          rw [hub, if_pos rfl, if_pos rfl] at HN
          rw [hub] at HCb
          by_cases hlt : va < vb
          · rw [if_pos hlt, if_pos hlt] at HN
            rw [if_pos hlt] at HW hNl
            have HDy := hide (fun W o o' c c' (h : IntsAt W o Lb) (h' : IntsAt W o' Lb) => deniedIs_ok vb Lb o o' c c' W h h' hNl)
            clear hlt hub hNl HNl HM
            go_enter Try.func5, Try.ntmps5
            go_wp2_with fail
            have HG1 := hide (((Blks.nil w).more (.cells #[.int .i64 va, .slice oa La.length ca] 45) (by simp)).more (.cells #[.int .i64 vb, .slice ob Lb.length cb] 45) (by simp))
            refine (HA.out _ (HLa.out.below HG1.out.2.2)).mono ?_
            rintro e w1 ⟨⟨x, rfl, ⟨-, rfl, ox, cx, rfl, hx⟩⟩, hb⟩
            have HG1w1 := hide (HG1.out.on hb)
            have HX := hide hx.1
            clear hx
            clear hb HG1
            have lG1_0 := HG1w1.out.lt 0 w.heap.size (by simp) rfl
            have cG1_0_0 := HG1w1.out.cell 0 0 w.heap.size _ _ _ rfl rfl rfl
            have cG1_0_1 := HG1w1.out.cell 0 1 w.heap.size _ _ _ rfl rfl rfl
            have lG1_1 := HG1w1.out.lt 1 (w.heap.size + 1) (by simp) rfl
            have cG1_1_0 := HG1w1.out.cell 1 0 (w.heap.size + 1) _ _ _ rfl rfl rfl
            have cG1_1_1 := HG1w1.out.cell 1 1 (w.heap.size + 1) _ _ _ rfl rfl rfl
            go_wp2_with fail
            have HX := hide ((Blks.nil w1).more (.cells #[.int .i64 (va + 1), .slice ox M.length cx] 45) (by simp))
            refine (HN.out _ (HLa.out.below (HG1w1.out.on HX.out.2.2).2.2) (HLb.out.below (HG1w1.out.on HX.out.2.2).2.2)).mono ?_
            rintro e w2 ⟨⟨x, rfl, ⟨-, rfl, on, cn, rfl, hx⟩⟩, hb⟩
            have HXw2 := hide (HX.out.on hb)
            have HG1w2 := hide (HG1w1.out.on HXw2.out.2.2)
            have HY := hide hx.1
            clear hx
            clear lG1_0 cG1_0_0 cG1_0_1 lG1_1 cG1_1_0 cG1_1_1
            clear hb HG1w1 HX
            have lG1_0 := HG1w2.out.lt 0 w.heap.size (by simp) rfl
            have cG1_0_0 := HG1w2.out.cell 0 0 w.heap.size _ _ _ rfl rfl rfl
            have cG1_0_1 := HG1w2.out.cell 0 1 w.heap.size _ _ _ rfl rfl rfl
            have lG1_1 := HG1w2.out.lt 1 (w.heap.size + 1) (by simp) rfl
            have cG1_1_0 := HG1w2.out.cell 1 0 (w.heap.size + 1) _ _ _ rfl rfl rfl
            have cG1_1_1 := HG1w2.out.cell 1 1 (w.heap.size + 1) _ _ _ rfl rfl rfl
            have lX_0 := HXw2.out.lt 0 w1.heap.size (by simp) rfl
            have cX_0_0 := HXw2.out.cell 0 0 w1.heap.size _ _ _ rfl rfl rfl
            have cX_0_1 := HXw2.out.cell 0 1 w1.heap.size _ _ _ rfl rfl rfl
            go_wp2_with fail
            have HY := hide ((Blks.nil w2).more (.cells #[.int .i64 vb, .slice on Lb.length cn] 45) (by simp))
            refine (HH.out _ (HLa.out.below (HG1w2.out.on HY.out.2.2).2.2)).mono ?_
            rintro e w3 ⟨rfl, hb⟩
            have HYw3 := hide (HY.out.on hb)
            have HG1w3 := hide (HG1w2.out.on HYw3.out.2.2)
            have HXw3 := hide (HXw2.out.on HYw3.out.2.2)
            clear lG1_0 cG1_0_0 cG1_0_1 lG1_1 cG1_1_0 cG1_1_1 lX_0 cX_0_0 cX_0_1
            clear hb HG1w2 HXw2 HY
            have lG1_0 := HG1w3.out.lt 0 w.heap.size (by simp) rfl
            have cG1_0_0 := HG1w3.out.cell 0 0 w.heap.size _ _ _ rfl rfl rfl
            have cG1_0_1 := HG1w3.out.cell 0 1 w.heap.size _ _ _ rfl rfl rfl
            have lG1_1 := HG1w3.out.lt 1 (w.heap.size + 1) (by simp) rfl
            have cG1_1_0 := HG1w3.out.cell 1 0 (w.heap.size + 1) _ _ _ rfl rfl rfl
            have cG1_1_1 := HG1w3.out.cell 1 1 (w.heap.size + 1) _ _ _ rfl rfl rfl
            have lX_0 := HXw3.out.lt 0 w1.heap.size (by simp) rfl
            have cX_0_0 := HXw3.out.cell 0 0 w1.heap.size _ _ _ rfl rfl rfl
            have cX_0_1 := HXw3.out.cell 0 1 w1.heap.size _ _ _ rfl rfl rfl
            have lY_0 := HYw3.out.lt 0 w2.heap.size (by simp) rfl
            have cY_0_0 := HYw3.out.cell 0 0 w2.heap.size _ _ _ rfl rfl rfl
            have cY_0_1 := HYw3.out.cell 0 1 w2.heap.size _ _ _ rfl rfl rfl
            go_wp2_with fail
            refine (HCa.out _ (HLa.out.below HG1w3.out.2.2)).mono ?_
            rintro e w4 ⟨rfl, hb⟩
            have HG1w4 := hide (HG1w3.out.on hb)
            have HXw4 := hide (HXw3.out.on hb)
            have HYw4 := hide (HYw3.out.on hb)
            clear lG1_0 cG1_0_0 cG1_0_1 lG1_1 cG1_1_0 cG1_1_1 lX_0 cX_0_0 cX_0_1 lY_0 cY_0_0 cY_0_1
            clear hb HG1w3 HXw3 HYw3
            have lG1_0 := HG1w4.out.lt 0 w.heap.size (by simp) rfl
            have cG1_0_0 := HG1w4.out.cell 0 0 w.heap.size _ _ _ rfl rfl rfl
            have cG1_0_1 := HG1w4.out.cell 0 1 w.heap.size _ _ _ rfl rfl rfl
            have lG1_1 := HG1w4.out.lt 1 (w.heap.size + 1) (by simp) rfl
            have cG1_1_0 := HG1w4.out.cell 1 0 (w.heap.size + 1) _ _ _ rfl rfl rfl
            have cG1_1_1 := HG1w4.out.cell 1 1 (w.heap.size + 1) _ _ _ rfl rfl rfl
            have lX_0 := HXw4.out.lt 0 w1.heap.size (by simp) rfl
            have cX_0_0 := HXw4.out.cell 0 0 w1.heap.size _ _ _ rfl rfl rfl
            have cX_0_1 := HXw4.out.cell 0 1 w1.heap.size _ _ _ rfl rfl rfl
            have lY_0 := HYw4.out.lt 0 w2.heap.size (by simp) rfl
            have cY_0_0 := HYw4.out.cell 0 0 w2.heap.size _ _ _ rfl rfl rfl
            have cY_0_1 := HYw4.out.cell 0 1 w2.heap.size _ _ _ rfl rfl rfl
            go_wp2_with fail
            clear lG1_0 cG1_0_0 cG1_0_1 lG1_1 cG1_1_0 cG1_1_1 lX_0 cX_0_0 cX_0_1 lY_0 cY_0_0 cY_0_1
            have zG1 := HG1w4.out.2.1
            simp only [List.length_append, List.length_cons, List.length_nil] at zG1
            have zX := HXw4.out.2.1
            simp only [List.length_append, List.length_cons, List.length_nil] at zX
            have zY := HYw4.out.2.1
            simp only [List.length_append, List.length_cons, List.length_nil] at zY
            have HM := hide (((Blks.nil w4).more (.cells #[.int .i64 0, .slice none 0 0] 45) (by simp)).more (.cells #[.int .i64 0, .slice none 0 0] 45) (by simp))
            refine (HE0.out _ (HLa.out.below (HG1w4.out.on HM.out.2.2).2.2) trivial).mono ?_
            rintro e w5 ⟨⟨om, cm, rfl, hm, hfm⟩, hb⟩
            have HMw5 := hide (HM.out.on hb)
            have HG1w5 := hide (HG1w4.out.on HMw5.out.2.2)
            have HXw5 := hide (HXw4.out.on HMw5.out.2.2)
            have HYw5 := hide (HYw4.out.on HMw5.out.2.2)
            have HV := hide (And.intro hm (hfm.monoD (show w4.heap.size + 1 + 1 ≤ _ from by simp)))
            clear hm hfm
            clear hb HG1w4 HXw4 HYw4 HM
            have lG1_0 := HG1w5.out.lt 0 w.heap.size (by simp) rfl
            have cG1_0_0 := HG1w5.out.cell 0 0 w.heap.size _ _ _ rfl rfl rfl
            have cG1_0_1 := HG1w5.out.cell 0 1 w.heap.size _ _ _ rfl rfl rfl
            have lG1_1 := HG1w5.out.lt 1 (w.heap.size + 1) (by simp) rfl
            have cG1_1_0 := HG1w5.out.cell 1 0 (w.heap.size + 1) _ _ _ rfl rfl rfl
            have cG1_1_1 := HG1w5.out.cell 1 1 (w.heap.size + 1) _ _ _ rfl rfl rfl
            have lX_0 := HXw5.out.lt 0 w1.heap.size (by simp) rfl
            have cX_0_0 := HXw5.out.cell 0 0 w1.heap.size _ _ _ rfl rfl rfl
            have cX_0_1 := HXw5.out.cell 0 1 w1.heap.size _ _ _ rfl rfl rfl
            have lY_0 := HYw5.out.lt 0 w2.heap.size (by simp) rfl
            have cY_0_0 := HYw5.out.cell 0 0 w2.heap.size _ _ _ rfl rfl rfl
            have cY_0_1 := HYw5.out.cell 0 1 w2.heap.size _ _ _ rfl rfl rfl
            have lM_0 := HMw5.out.lt 0 w4.heap.size (by simp) rfl
            have cM_0_0 := HMw5.out.cell 0 0 w4.heap.size _ _ _ rfl rfl rfl
            have fM_0_0 := HMw5.out.frozen 0 0 w4.heap.size _ _ rfl rfl
            have cM_0_1 := HMw5.out.cell 0 1 w4.heap.size _ _ _ rfl rfl rfl
            have fM_0_1 := HMw5.out.frozen 0 1 w4.heap.size _ _ rfl rfl
            have lM_1 := HMw5.out.lt 1 (w4.heap.size + 1) (by simp) rfl
            have cM_1_0 := HMw5.out.cell 1 0 (w4.heap.size + 1) _ _ _ rfl rfl rfl
            have fM_1_0 := HMw5.out.frozen 1 0 (w4.heap.size + 1) _ _ rfl rfl
            have cM_1_1 := HMw5.out.cell 1 1 (w4.heap.size + 1) _ _ _ rfl rfl rfl
            have fM_1_1 := HMw5.out.frozen 1 1 (w4.heap.size + 1) _ _ rfl rfl
            go_wp2_with fail
            clear lG1_0 cG1_0_0 cG1_0_1 lG1_1 cG1_1_0 cG1_1_1 lX_0 cX_0_0 cX_0_1 lY_0 cY_0_0 cY_0_1 lM_0 cM_0_0 fM_0_0 cM_0_1 fM_0_1 lM_1 cM_1_0 fM_1_0 cM_1_1 fM_1_1
            have HG1w5s := hide ((HG1w5.out.set ⟨w4.heap.size, 0, none⟩ (by simp; try omega) (.int .i64 (va + 1))).set ⟨w4.heap.size, 1, none⟩ (by simp; try omega) (.slice om M.length cm))
            have HXw5s := hide ((HXw5.out.set ⟨w4.heap.size, 0, none⟩ (by simp; try omega) (.int .i64 (va + 1))).set ⟨w4.heap.size, 1, none⟩ (by simp; try omega) (.slice om M.length cm))
            have HYw5s := hide ((HYw5.out.set ⟨w4.heap.size, 0, none⟩ (by simp; try omega) (.int .i64 (va + 1))).set ⟨w4.heap.size, 1, none⟩ (by simp; try omega) (.slice om M.length cm))
            have HMw5s : Hid (Blks w4 ((w5.setCell ⟨w4.heap.size, 0, none⟩ (.int .i64 (va + 1))).setCell ⟨w4.heap.size, 1, none⟩ (.slice om M.length cm)) [.cells #[.int .i64 (va + 1), .slice om M.length cm] 45, .cells #[.int .i64 0, .slice none 0 0] 45]) := hide ((HMw5.out.put 0 0 w4.heap.size _ _ (.int .i64 (va + 1)) rfl rfl).put 0 1 w4.heap.size _ _ (.slice om M.length cm) rfl rfl)
            have VI : Hid (IntsV ((w5.setCell ⟨w4.heap.size, 0, none⟩ (.int .i64 (va + 1))).setCell ⟨w4.heap.size, 1, none⟩ (.slice om M.length cm)) (.slice om M.length cm) M) := hide ((HV.out.1.setD HV.out.2 (p := ⟨w4.heap.size, 0, none⟩) (by simp; omega) (.int .i64 (va + 1))).setD HV.out.2 (p := ⟨w4.heap.size, 1, none⟩) (by simp; omega) (.slice om M.length cm))
            have HFm := hide HV.out.2
            clear HV
            clear HG1w5 HXw5 HYw5 HMw5
            generalize ((w5.setCell ⟨w4.heap.size, 0, none⟩ (.int .i64 (va + 1))).setCell ⟨w4.heap.size, 1, none⟩ (.slice om M.length cm)) = w5s at *
            have HV := hide (Blks.nil w5s)
            refine (HCb.out _ (HLb.out.below (HG1w5s.out.on HV.out.2.2).2.2)).mono ?_
            rintro e w6 ⟨rfl, hb⟩
            have HVw6 := hide (HV.out.on hb)
            have HG1w6 := hide (HG1w5s.out.on HVw6.out.2.2)
            have HXw6 := hide (HXw5s.out.on HVw6.out.2.2)
            have HYw6 := hide (HYw5s.out.on HVw6.out.2.2)
            have HMw6 := hide (HMw5s.out.on HVw6.out.2.2)
            clear hb HG1w5s HXw5s HYw5s HMw5s HV
            have lG1_0 := HG1w6.out.lt 0 w.heap.size (by simp) rfl
            have cG1_0_0 := HG1w6.out.cell 0 0 w.heap.size _ _ _ rfl rfl rfl
            have cG1_0_1 := HG1w6.out.cell 0 1 w.heap.size _ _ _ rfl rfl rfl
            have lG1_1 := HG1w6.out.lt 1 (w.heap.size + 1) (by simp) rfl
            have cG1_1_0 := HG1w6.out.cell 1 0 (w.heap.size + 1) _ _ _ rfl rfl rfl
            have cG1_1_1 := HG1w6.out.cell 1 1 (w.heap.size + 1) _ _ _ rfl rfl rfl
            have lX_0 := HXw6.out.lt 0 w1.heap.size (by simp) rfl
            have cX_0_0 := HXw6.out.cell 0 0 w1.heap.size _ _ _ rfl rfl rfl
            have cX_0_1 := HXw6.out.cell 0 1 w1.heap.size _ _ _ rfl rfl rfl
            have lY_0 := HYw6.out.lt 0 w2.heap.size (by simp) rfl
            have cY_0_0 := HYw6.out.cell 0 0 w2.heap.size _ _ _ rfl rfl rfl
            have cY_0_1 := HYw6.out.cell 0 1 w2.heap.size _ _ _ rfl rfl rfl
            have lM_0 := HMw6.out.lt 0 w4.heap.size (by simp) rfl
            have cM_0_0 := HMw6.out.cell 0 0 w4.heap.size _ _ _ rfl rfl rfl
            have cM_0_1 := HMw6.out.cell 0 1 w4.heap.size _ _ _ rfl rfl rfl
            have lM_1 := HMw6.out.lt 1 (w4.heap.size + 1) (by simp) rfl
            have cM_1_0 := HMw6.out.cell 1 0 (w4.heap.size + 1) _ _ _ rfl rfl rfl
            have fM_1_0 := HMw6.out.frozen 1 0 (w4.heap.size + 1) _ _ rfl rfl
            have cM_1_1 := HMw6.out.cell 1 1 (w4.heap.size + 1) _ _ _ rfl rfl rfl
            have fM_1_1 := HMw6.out.frozen 1 1 (w4.heap.size + 1) _ _ rfl rfl
            go_wp2_with fail
            refine (HW.out _).mono ?_
            rintro e w7 ⟨rfl, hb⟩
            have HG1w7 := hide (HG1w6.out.on hb)
            have HXw7 := hide (HXw6.out.on hb)
            have HYw7 := hide (HYw6.out.on hb)
            have HMw7 := hide (HMw6.out.on hb)
            have HVw7 := hide (HVw6.out.on hb)
            clear lG1_0 cG1_0_0 cG1_0_1 lG1_1 cG1_1_0 cG1_1_1 lX_0 cX_0_0 cX_0_1 lY_0 cY_0_0 cY_0_1 lM_0 cM_0_0 cM_0_1 lM_1 cM_1_0 fM_1_0 cM_1_1 fM_1_1
            clear hb HG1w6 HXw6 HYw6 HMw6 HVw6
            have lG1_0 := HG1w7.out.lt 0 w.heap.size (by simp) rfl
            have cG1_0_0 := HG1w7.out.cell 0 0 w.heap.size _ _ _ rfl rfl rfl
            have cG1_0_1 := HG1w7.out.cell 0 1 w.heap.size _ _ _ rfl rfl rfl
            have lG1_1 := HG1w7.out.lt 1 (w.heap.size + 1) (by simp) rfl
            have cG1_1_0 := HG1w7.out.cell 1 0 (w.heap.size + 1) _ _ _ rfl rfl rfl
            have cG1_1_1 := HG1w7.out.cell 1 1 (w.heap.size + 1) _ _ _ rfl rfl rfl
            have lX_0 := HXw7.out.lt 0 w1.heap.size (by simp) rfl
            have cX_0_0 := HXw7.out.cell 0 0 w1.heap.size _ _ _ rfl rfl rfl
            have cX_0_1 := HXw7.out.cell 0 1 w1.heap.size _ _ _ rfl rfl rfl
            have lY_0 := HYw7.out.lt 0 w2.heap.size (by simp) rfl
            have cY_0_0 := HYw7.out.cell 0 0 w2.heap.size _ _ _ rfl rfl rfl
            have cY_0_1 := HYw7.out.cell 0 1 w2.heap.size _ _ _ rfl rfl rfl
            have lM_0 := HMw7.out.lt 0 w4.heap.size (by simp) rfl
            have cM_0_0 := HMw7.out.cell 0 0 w4.heap.size _ _ _ rfl rfl rfl
            have cM_0_1 := HMw7.out.cell 0 1 w4.heap.size _ _ _ rfl rfl rfl
            have lM_1 := HMw7.out.lt 1 (w4.heap.size + 1) (by simp) rfl
            have cM_1_0 := HMw7.out.cell 1 0 (w4.heap.size + 1) _ _ _ rfl rfl rfl
            have fM_1_0 := HMw7.out.frozen 1 0 (w4.heap.size + 1) _ _ rfl rfl
            have cM_1_1 := HMw7.out.cell 1 1 (w4.heap.size + 1) _ _ _ rfl rfl rfl
            have fM_1_1 := HMw7.out.frozen 1 1 (w4.heap.size + 1) _ _ rfl rfl
            go_wp2_with fail
            have VI7 := hide (VI.out.below HVw7.out.2.2)
            clear VI HVw7
            clear lG1_0 cG1_0_0 cG1_0_1 lG1_1 cG1_1_0 cG1_1_1 lX_0 cX_0_0 cX_0_1 lY_0 cY_0_0 cY_0_1 lM_0 cM_0_0 cM_0_1 lM_1 cM_1_0 fM_1_0 cM_1_1 fM_1_1
            have HG1w7s := hide ((HG1w7.out.set ⟨w4.heap.size + 1, 0, none⟩ (by simp; try omega) (.int .i64 vb)).set ⟨w4.heap.size + 1, 1, none⟩ (by simp; try omega) (.slice ob Lb.length cb))
            have HXw7s := hide ((HXw7.out.set ⟨w4.heap.size + 1, 0, none⟩ (by simp; try omega) (.int .i64 vb)).set ⟨w4.heap.size + 1, 1, none⟩ (by simp; try omega) (.slice ob Lb.length cb))
            have HYw7s := hide ((HYw7.out.set ⟨w4.heap.size + 1, 0, none⟩ (by simp; try omega) (.int .i64 vb)).set ⟨w4.heap.size + 1, 1, none⟩ (by simp; try omega) (.slice ob Lb.length cb))
            have HMw7s : Hid (Blks w4 ((w7.setCell ⟨w4.heap.size + 1, 0, none⟩ (.int .i64 vb)).setCell ⟨w4.heap.size + 1, 1, none⟩ (.slice ob Lb.length cb)) [.cells #[.int .i64 (va + 1), .slice om M.length cm] 45, .cells #[.int .i64 vb, .slice ob Lb.length cb] 45]) := hide ((HMw7.out.put 1 0 (w4.heap.size + 1) _ _ (.int .i64 vb) rfl rfl).put 1 1 (w4.heap.size + 1) _ _ (.slice ob Lb.length cb) rfl rfl)
            have VI : Hid (IntsV ((w7.setCell ⟨w4.heap.size + 1, 0, none⟩ (.int .i64 vb)).setCell ⟨w4.heap.size + 1, 1, none⟩ (.slice ob Lb.length cb)) (.slice om M.length cm) M) := hide ((VI7.out.setD HFm.out (p := ⟨w4.heap.size + 1, 0, none⟩) (by simp) (.int .i64 vb)).setD HFm.out (p := ⟨w4.heap.size + 1, 1, none⟩) (by simp) (.slice ob Lb.length cb))
            clear VI7
            clear HG1w7 HXw7 HYw7 HMw7
            generalize ((w7.setCell ⟨w4.heap.size + 1, 0, none⟩ (.int .i64 vb)).setCell ⟨w4.heap.size + 1, 1, none⟩ (.slice ob Lb.length cb)) = w7s at *
            have HV := hide (Blks.nil w7s)
            refine (deniedBegun_any _).mono ?_
            rintro e w8 ⟨rfl, hb⟩
            have HVw8 := hide (HV.out.on hb)
            have HG1w8 := hide (HG1w7s.out.on HVw8.out.2.2)
            have HXw8 := hide (HXw7s.out.on HVw8.out.2.2)
            have HYw8 := hide (HYw7s.out.on HVw8.out.2.2)
            have HMw8 := hide (HMw7s.out.on HVw8.out.2.2)
            clear hb HG1w7s HXw7s HYw7s HMw7s HV
            have lG1_0 := HG1w8.out.lt 0 w.heap.size (by simp) rfl
            have cG1_0_0 := HG1w8.out.cell 0 0 w.heap.size _ _ _ rfl rfl rfl
            have cG1_0_1 := HG1w8.out.cell 0 1 w.heap.size _ _ _ rfl rfl rfl
            have lG1_1 := HG1w8.out.lt 1 (w.heap.size + 1) (by simp) rfl
            have cG1_1_0 := HG1w8.out.cell 1 0 (w.heap.size + 1) _ _ _ rfl rfl rfl
            have cG1_1_1 := HG1w8.out.cell 1 1 (w.heap.size + 1) _ _ _ rfl rfl rfl
            have lX_0 := HXw8.out.lt 0 w1.heap.size (by simp) rfl
            have cX_0_0 := HXw8.out.cell 0 0 w1.heap.size _ _ _ rfl rfl rfl
            have cX_0_1 := HXw8.out.cell 0 1 w1.heap.size _ _ _ rfl rfl rfl
            have lY_0 := HYw8.out.lt 0 w2.heap.size (by simp) rfl
            have cY_0_0 := HYw8.out.cell 0 0 w2.heap.size _ _ _ rfl rfl rfl
            have cY_0_1 := HYw8.out.cell 0 1 w2.heap.size _ _ _ rfl rfl rfl
            have lM_0 := HMw8.out.lt 0 w4.heap.size (by simp) rfl
            have cM_0_0 := HMw8.out.cell 0 0 w4.heap.size _ _ _ rfl rfl rfl
            have cM_0_1 := HMw8.out.cell 0 1 w4.heap.size _ _ _ rfl rfl rfl
            have lM_1 := HMw8.out.lt 1 (w4.heap.size + 1) (by simp) rfl
            have cM_1_0 := HMw8.out.cell 1 0 (w4.heap.size + 1) _ _ _ rfl rfl rfl
            have cM_1_1 := HMw8.out.cell 1 1 (w4.heap.size + 1) _ _ _ rfl rfl rfl
            go_wp2_with fail
            refine (HC.out _ (HLa.out.below HG1w8.out.2.2)).mono ?_
            rintro e w9 ⟨rfl, hb⟩
            have HG1w9 := hide (HG1w8.out.on hb)
            have HXw9 := hide (HXw8.out.on hb)
            have HYw9 := hide (HYw8.out.on hb)
            have HMw9 := hide (HMw8.out.on hb)
            have HVw9 := hide (HVw8.out.on hb)
            clear lG1_0 cG1_0_0 cG1_0_1 lG1_1 cG1_1_0 cG1_1_1 lX_0 cX_0_0 cX_0_1 lY_0 cY_0_0 cY_0_1 lM_0 cM_0_0 cM_0_1 lM_1 cM_1_0 cM_1_1
            clear hb HG1w8 HXw8 HYw8 HMw8 HVw8
            have lG1_0 := HG1w9.out.lt 0 w.heap.size (by simp) rfl
            have cG1_0_0 := HG1w9.out.cell 0 0 w.heap.size _ _ _ rfl rfl rfl
            have cG1_0_1 := HG1w9.out.cell 0 1 w.heap.size _ _ _ rfl rfl rfl
            have lG1_1 := HG1w9.out.lt 1 (w.heap.size + 1) (by simp) rfl
            have cG1_1_0 := HG1w9.out.cell 1 0 (w.heap.size + 1) _ _ _ rfl rfl rfl
            have cG1_1_1 := HG1w9.out.cell 1 1 (w.heap.size + 1) _ _ _ rfl rfl rfl
            have lX_0 := HXw9.out.lt 0 w1.heap.size (by simp) rfl
            have cX_0_0 := HXw9.out.cell 0 0 w1.heap.size _ _ _ rfl rfl rfl
            have cX_0_1 := HXw9.out.cell 0 1 w1.heap.size _ _ _ rfl rfl rfl
            have lY_0 := HYw9.out.lt 0 w2.heap.size (by simp) rfl
            have cY_0_0 := HYw9.out.cell 0 0 w2.heap.size _ _ _ rfl rfl rfl
            have cY_0_1 := HYw9.out.cell 0 1 w2.heap.size _ _ _ rfl rfl rfl
            have lM_0 := HMw9.out.lt 0 w4.heap.size (by simp) rfl
            have cM_0_0 := HMw9.out.cell 0 0 w4.heap.size _ _ _ rfl rfl rfl
            have cM_0_1 := HMw9.out.cell 0 1 w4.heap.size _ _ _ rfl rfl rfl
            have lM_1 := HMw9.out.lt 1 (w4.heap.size + 1) (by simp) rfl
            have cM_1_0 := HMw9.out.cell 1 0 (w4.heap.size + 1) _ _ _ rfl rfl rfl
            have cM_1_1 := HMw9.out.cell 1 1 (w4.heap.size + 1) _ _ _ rfl rfl rfl
            go_wp2_with fail
            refine (HDx.out _ ox om cx cm (HX.out.below HXw9.out.2.2) (VI.out.below HVw9.out.2.2)).mono ?_
            rintro e w10 ⟨rfl, hb⟩
            have HG1w10 := hide (HG1w9.out.on hb)
            have HXw10 := hide (HXw9.out.on hb)
            have HYw10 := hide (HYw9.out.on hb)
            have HMw10 := hide (HMw9.out.on hb)
            have HVw10 := hide (HVw9.out.on hb)
            clear lG1_0 cG1_0_0 cG1_0_1 lG1_1 cG1_1_0 cG1_1_1 lX_0 cX_0_0 cX_0_1 lY_0 cY_0_0 cY_0_1 lM_0 cM_0_0 cM_0_1 lM_1 cM_1_0 cM_1_1
            clear hb HG1w9 HXw9 HYw9 HMw9 HVw9
            have lG1_0 := HG1w10.out.lt 0 w.heap.size (by simp) rfl
            have cG1_0_0 := HG1w10.out.cell 0 0 w.heap.size _ _ _ rfl rfl rfl
            have cG1_0_1 := HG1w10.out.cell 0 1 w.heap.size _ _ _ rfl rfl rfl
            have lG1_1 := HG1w10.out.lt 1 (w.heap.size + 1) (by simp) rfl
            have cG1_1_0 := HG1w10.out.cell 1 0 (w.heap.size + 1) _ _ _ rfl rfl rfl
            have cG1_1_1 := HG1w10.out.cell 1 1 (w.heap.size + 1) _ _ _ rfl rfl rfl
            have lX_0 := HXw10.out.lt 0 w1.heap.size (by simp) rfl
            have cX_0_0 := HXw10.out.cell 0 0 w1.heap.size _ _ _ rfl rfl rfl
            have cX_0_1 := HXw10.out.cell 0 1 w1.heap.size _ _ _ rfl rfl rfl
            have lY_0 := HYw10.out.lt 0 w2.heap.size (by simp) rfl
            have cY_0_0 := HYw10.out.cell 0 0 w2.heap.size _ _ _ rfl rfl rfl
            have cY_0_1 := HYw10.out.cell 0 1 w2.heap.size _ _ _ rfl rfl rfl
            have lM_0 := HMw10.out.lt 0 w4.heap.size (by simp) rfl
            have cM_0_0 := HMw10.out.cell 0 0 w4.heap.size _ _ _ rfl rfl rfl
            have cM_0_1 := HMw10.out.cell 0 1 w4.heap.size _ _ _ rfl rfl rfl
            have lM_1 := HMw10.out.lt 1 (w4.heap.size + 1) (by simp) rfl
            have cM_1_0 := HMw10.out.cell 1 0 (w4.heap.size + 1) _ _ _ rfl rfl rfl
            have cM_1_1 := HMw10.out.cell 1 1 (w4.heap.size + 1) _ _ _ rfl rfl rfl
            go_wp2_with fail
            refine (HDy.out _ on ob cn cb (HY.out.below HYw10.out.2.2) (HLb.out.below HG1w10.out.2.2)).mono ?_
            rintro e w11 ⟨rfl, hb⟩
            have HG1w11 := hide (HG1w10.out.on hb)
            have HXw11 := hide (HXw10.out.on hb)
            have HYw11 := hide (HYw10.out.on hb)
            have HMw11 := hide (HMw10.out.on hb)
            have HVw11 := hide (HVw10.out.on hb)
            clear lG1_0 cG1_0_0 cG1_0_1 lG1_1 cG1_1_0 cG1_1_1 lX_0 cX_0_0 cX_0_1 lY_0 cY_0_0 cY_0_1 lM_0 cM_0_0 cM_0_1 lM_1 cM_1_0 cM_1_1
            clear hb HG1w10 HXw10 HYw10 HMw10 HVw10
            have lG1_0 := HG1w11.out.lt 0 w.heap.size (by simp) rfl
            have cG1_0_0 := HG1w11.out.cell 0 0 w.heap.size _ _ _ rfl rfl rfl
            have cG1_0_1 := HG1w11.out.cell 0 1 w.heap.size _ _ _ rfl rfl rfl
            have lG1_1 := HG1w11.out.lt 1 (w.heap.size + 1) (by simp) rfl
            have cG1_1_0 := HG1w11.out.cell 1 0 (w.heap.size + 1) _ _ _ rfl rfl rfl
            have cG1_1_1 := HG1w11.out.cell 1 1 (w.heap.size + 1) _ _ _ rfl rfl rfl
            have lX_0 := HXw11.out.lt 0 w1.heap.size (by simp) rfl
            have cX_0_0 := HXw11.out.cell 0 0 w1.heap.size _ _ _ rfl rfl rfl
            have cX_0_1 := HXw11.out.cell 0 1 w1.heap.size _ _ _ rfl rfl rfl
            have lY_0 := HYw11.out.lt 0 w2.heap.size (by simp) rfl
            have cY_0_0 := HYw11.out.cell 0 0 w2.heap.size _ _ _ rfl rfl rfl
            have cY_0_1 := HYw11.out.cell 0 1 w2.heap.size _ _ _ rfl rfl rfl
            have lM_0 := HMw11.out.lt 0 w4.heap.size (by simp) rfl
            have cM_0_0 := HMw11.out.cell 0 0 w4.heap.size _ _ _ rfl rfl rfl
            have cM_0_1 := HMw11.out.cell 0 1 w4.heap.size _ _ _ rfl rfl rfl
            have lM_1 := HMw11.out.lt 1 (w4.heap.size + 1) (by simp) rfl
            have cM_1_0 := HMw11.out.cell 1 0 (w4.heap.size + 1) _ _ _ rfl rfl rfl
            have cM_1_1 := HMw11.out.cell 1 1 (w4.heap.size + 1) _ _ _ rfl rfl rfl
            go_wp2_with fail
            refine (HI.out _ (HLa.out.below HG1w11.out.2.2)).mono ?_
            rintro e w12 ⟨rfl, rfl⟩
            go_wp2_with fail
            go_ret
            exact ⟨by first | rfl | simp, HG1w11.out.2.2⟩
          · rw [if_neg hlt, if_neg hlt] at HN
            rw [if_neg hlt] at HW hNl
            have HDy := hide (fun W o o' c c' (h : IntsAt W o La) (h' : IntsAt W o' La) => deniedIs_ok va La o o' c c' W h h' hNl)
            clear hlt hub hNl HNl HM
            go_enter Try.func5, Try.ntmps5
            go_wp2_with fail
            have HG1 := hide (((Blks.nil w).more (.cells #[.int .i64 va, .slice oa La.length ca] 45) (by simp)).more (.cells #[.int .i64 vb, .slice ob Lb.length cb] 45) (by simp))
            refine (HA.out _ (HLa.out.below HG1.out.2.2)).mono ?_
            rintro e w1 ⟨⟨x, rfl, ⟨-, rfl, ox, cx, rfl, hx⟩⟩, hb⟩
            have HG1w1 := hide (HG1.out.on hb)
            have HX := hide hx.1
            clear hx
            clear hb HG1
            have lG1_0 := HG1w1.out.lt 0 w.heap.size (by simp) rfl
            have cG1_0_0 := HG1w1.out.cell 0 0 w.heap.size _ _ _ rfl rfl rfl
            have cG1_0_1 := HG1w1.out.cell 0 1 w.heap.size _ _ _ rfl rfl rfl
            have lG1_1 := HG1w1.out.lt 1 (w.heap.size + 1) (by simp) rfl
            have cG1_1_0 := HG1w1.out.cell 1 0 (w.heap.size + 1) _ _ _ rfl rfl rfl
            have cG1_1_1 := HG1w1.out.cell 1 1 (w.heap.size + 1) _ _ _ rfl rfl rfl
            go_wp2_with fail
            have HX := hide ((Blks.nil w1).more (.cells #[.int .i64 (va + 1), .slice ox M.length cx] 45) (by simp))
            refine (HN.out _ (HLa.out.below (HG1w1.out.on HX.out.2.2).2.2) (HLb.out.below (HG1w1.out.on HX.out.2.2).2.2)).mono ?_
            rintro e w2 ⟨⟨x, rfl, ⟨-, rfl, on, cn, rfl, hx⟩⟩, hb⟩
            have HXw2 := hide (HX.out.on hb)
            have HG1w2 := hide (HG1w1.out.on HXw2.out.2.2)
            have HY := hide hx.1
            clear hx
            clear lG1_0 cG1_0_0 cG1_0_1 lG1_1 cG1_1_0 cG1_1_1
            clear hb HG1w1 HX
            have lG1_0 := HG1w2.out.lt 0 w.heap.size (by simp) rfl
            have cG1_0_0 := HG1w2.out.cell 0 0 w.heap.size _ _ _ rfl rfl rfl
            have cG1_0_1 := HG1w2.out.cell 0 1 w.heap.size _ _ _ rfl rfl rfl
            have lG1_1 := HG1w2.out.lt 1 (w.heap.size + 1) (by simp) rfl
            have cG1_1_0 := HG1w2.out.cell 1 0 (w.heap.size + 1) _ _ _ rfl rfl rfl
            have cG1_1_1 := HG1w2.out.cell 1 1 (w.heap.size + 1) _ _ _ rfl rfl rfl
            have lX_0 := HXw2.out.lt 0 w1.heap.size (by simp) rfl
            have cX_0_0 := HXw2.out.cell 0 0 w1.heap.size _ _ _ rfl rfl rfl
            have cX_0_1 := HXw2.out.cell 0 1 w1.heap.size _ _ _ rfl rfl rfl
            go_wp2_with fail
            have HY := hide ((Blks.nil w2).more (.cells #[.int .i64 va, .slice on La.length cn] 45) (by simp))
            refine (HH.out _ (HLa.out.below (HG1w2.out.on HY.out.2.2).2.2)).mono ?_
            rintro e w3 ⟨rfl, hb⟩
            have HYw3 := hide (HY.out.on hb)
            have HG1w3 := hide (HG1w2.out.on HYw3.out.2.2)
            have HXw3 := hide (HXw2.out.on HYw3.out.2.2)
            clear lG1_0 cG1_0_0 cG1_0_1 lG1_1 cG1_1_0 cG1_1_1 lX_0 cX_0_0 cX_0_1
            clear hb HG1w2 HXw2 HY
            have lG1_0 := HG1w3.out.lt 0 w.heap.size (by simp) rfl
            have cG1_0_0 := HG1w3.out.cell 0 0 w.heap.size _ _ _ rfl rfl rfl
            have cG1_0_1 := HG1w3.out.cell 0 1 w.heap.size _ _ _ rfl rfl rfl
            have lG1_1 := HG1w3.out.lt 1 (w.heap.size + 1) (by simp) rfl
            have cG1_1_0 := HG1w3.out.cell 1 0 (w.heap.size + 1) _ _ _ rfl rfl rfl
            have cG1_1_1 := HG1w3.out.cell 1 1 (w.heap.size + 1) _ _ _ rfl rfl rfl
            have lX_0 := HXw3.out.lt 0 w1.heap.size (by simp) rfl
            have cX_0_0 := HXw3.out.cell 0 0 w1.heap.size _ _ _ rfl rfl rfl
            have cX_0_1 := HXw3.out.cell 0 1 w1.heap.size _ _ _ rfl rfl rfl
            have lY_0 := HYw3.out.lt 0 w2.heap.size (by simp) rfl
            have cY_0_0 := HYw3.out.cell 0 0 w2.heap.size _ _ _ rfl rfl rfl
            have cY_0_1 := HYw3.out.cell 0 1 w2.heap.size _ _ _ rfl rfl rfl
            go_wp2_with fail
            refine (HCa.out _ (HLa.out.below HG1w3.out.2.2)).mono ?_
            rintro e w4 ⟨rfl, hb⟩
            have HG1w4 := hide (HG1w3.out.on hb)
            have HXw4 := hide (HXw3.out.on hb)
            have HYw4 := hide (HYw3.out.on hb)
            clear lG1_0 cG1_0_0 cG1_0_1 lG1_1 cG1_1_0 cG1_1_1 lX_0 cX_0_0 cX_0_1 lY_0 cY_0_0 cY_0_1
            clear hb HG1w3 HXw3 HYw3
            have lG1_0 := HG1w4.out.lt 0 w.heap.size (by simp) rfl
            have cG1_0_0 := HG1w4.out.cell 0 0 w.heap.size _ _ _ rfl rfl rfl
            have cG1_0_1 := HG1w4.out.cell 0 1 w.heap.size _ _ _ rfl rfl rfl
            have lG1_1 := HG1w4.out.lt 1 (w.heap.size + 1) (by simp) rfl
            have cG1_1_0 := HG1w4.out.cell 1 0 (w.heap.size + 1) _ _ _ rfl rfl rfl
            have cG1_1_1 := HG1w4.out.cell 1 1 (w.heap.size + 1) _ _ _ rfl rfl rfl
            have lX_0 := HXw4.out.lt 0 w1.heap.size (by simp) rfl
            have cX_0_0 := HXw4.out.cell 0 0 w1.heap.size _ _ _ rfl rfl rfl
            have cX_0_1 := HXw4.out.cell 0 1 w1.heap.size _ _ _ rfl rfl rfl
            have lY_0 := HYw4.out.lt 0 w2.heap.size (by simp) rfl
            have cY_0_0 := HYw4.out.cell 0 0 w2.heap.size _ _ _ rfl rfl rfl
            have cY_0_1 := HYw4.out.cell 0 1 w2.heap.size _ _ _ rfl rfl rfl
            go_wp2_with fail
            clear lG1_0 cG1_0_0 cG1_0_1 lG1_1 cG1_1_0 cG1_1_1 lX_0 cX_0_0 cX_0_1 lY_0 cY_0_0 cY_0_1
            have zG1 := HG1w4.out.2.1
            simp only [List.length_append, List.length_cons, List.length_nil] at zG1
            have zX := HXw4.out.2.1
            simp only [List.length_append, List.length_cons, List.length_nil] at zX
            have zY := HYw4.out.2.1
            simp only [List.length_append, List.length_cons, List.length_nil] at zY
            have HM := hide (((Blks.nil w4).more (.cells #[.int .i64 0, .slice none 0 0] 45) (by simp)).more (.cells #[.int .i64 0, .slice none 0 0] 45) (by simp))
            refine (HE0.out _ (HLa.out.below (HG1w4.out.on HM.out.2.2).2.2) trivial).mono ?_
            rintro e w5 ⟨⟨om, cm, rfl, hm, hfm⟩, hb⟩
            have HMw5 := hide (HM.out.on hb)
            have HG1w5 := hide (HG1w4.out.on HMw5.out.2.2)
            have HXw5 := hide (HXw4.out.on HMw5.out.2.2)
            have HYw5 := hide (HYw4.out.on HMw5.out.2.2)
            have HV := hide (And.intro hm (hfm.monoD (show w4.heap.size + 1 + 1 ≤ _ from by simp)))
            clear hm hfm
            clear hb HG1w4 HXw4 HYw4 HM
            have lG1_0 := HG1w5.out.lt 0 w.heap.size (by simp) rfl
            have cG1_0_0 := HG1w5.out.cell 0 0 w.heap.size _ _ _ rfl rfl rfl
            have cG1_0_1 := HG1w5.out.cell 0 1 w.heap.size _ _ _ rfl rfl rfl
            have lG1_1 := HG1w5.out.lt 1 (w.heap.size + 1) (by simp) rfl
            have cG1_1_0 := HG1w5.out.cell 1 0 (w.heap.size + 1) _ _ _ rfl rfl rfl
            have cG1_1_1 := HG1w5.out.cell 1 1 (w.heap.size + 1) _ _ _ rfl rfl rfl
            have lX_0 := HXw5.out.lt 0 w1.heap.size (by simp) rfl
            have cX_0_0 := HXw5.out.cell 0 0 w1.heap.size _ _ _ rfl rfl rfl
            have cX_0_1 := HXw5.out.cell 0 1 w1.heap.size _ _ _ rfl rfl rfl
            have lY_0 := HYw5.out.lt 0 w2.heap.size (by simp) rfl
            have cY_0_0 := HYw5.out.cell 0 0 w2.heap.size _ _ _ rfl rfl rfl
            have cY_0_1 := HYw5.out.cell 0 1 w2.heap.size _ _ _ rfl rfl rfl
            have lM_0 := HMw5.out.lt 0 w4.heap.size (by simp) rfl
            have cM_0_0 := HMw5.out.cell 0 0 w4.heap.size _ _ _ rfl rfl rfl
            have fM_0_0 := HMw5.out.frozen 0 0 w4.heap.size _ _ rfl rfl
            have cM_0_1 := HMw5.out.cell 0 1 w4.heap.size _ _ _ rfl rfl rfl
            have fM_0_1 := HMw5.out.frozen 0 1 w4.heap.size _ _ rfl rfl
            have lM_1 := HMw5.out.lt 1 (w4.heap.size + 1) (by simp) rfl
            have cM_1_0 := HMw5.out.cell 1 0 (w4.heap.size + 1) _ _ _ rfl rfl rfl
            have fM_1_0 := HMw5.out.frozen 1 0 (w4.heap.size + 1) _ _ rfl rfl
            have cM_1_1 := HMw5.out.cell 1 1 (w4.heap.size + 1) _ _ _ rfl rfl rfl
            have fM_1_1 := HMw5.out.frozen 1 1 (w4.heap.size + 1) _ _ rfl rfl
            go_wp2_with fail
            clear lG1_0 cG1_0_0 cG1_0_1 lG1_1 cG1_1_0 cG1_1_1 lX_0 cX_0_0 cX_0_1 lY_0 cY_0_0 cY_0_1 lM_0 cM_0_0 fM_0_0 cM_0_1 fM_0_1 lM_1 cM_1_0 fM_1_0 cM_1_1 fM_1_1
            have HG1w5s := hide ((HG1w5.out.set ⟨w4.heap.size, 0, none⟩ (by simp; try omega) (.int .i64 (va + 1))).set ⟨w4.heap.size, 1, none⟩ (by simp; try omega) (.slice om M.length cm))
            have HXw5s := hide ((HXw5.out.set ⟨w4.heap.size, 0, none⟩ (by simp; try omega) (.int .i64 (va + 1))).set ⟨w4.heap.size, 1, none⟩ (by simp; try omega) (.slice om M.length cm))
            have HYw5s := hide ((HYw5.out.set ⟨w4.heap.size, 0, none⟩ (by simp; try omega) (.int .i64 (va + 1))).set ⟨w4.heap.size, 1, none⟩ (by simp; try omega) (.slice om M.length cm))
            have HMw5s : Hid (Blks w4 ((w5.setCell ⟨w4.heap.size, 0, none⟩ (.int .i64 (va + 1))).setCell ⟨w4.heap.size, 1, none⟩ (.slice om M.length cm)) [.cells #[.int .i64 (va + 1), .slice om M.length cm] 45, .cells #[.int .i64 0, .slice none 0 0] 45]) := hide ((HMw5.out.put 0 0 w4.heap.size _ _ (.int .i64 (va + 1)) rfl rfl).put 0 1 w4.heap.size _ _ (.slice om M.length cm) rfl rfl)
            have VI : Hid (IntsV ((w5.setCell ⟨w4.heap.size, 0, none⟩ (.int .i64 (va + 1))).setCell ⟨w4.heap.size, 1, none⟩ (.slice om M.length cm)) (.slice om M.length cm) M) := hide ((HV.out.1.setD HV.out.2 (p := ⟨w4.heap.size, 0, none⟩) (by simp; omega) (.int .i64 (va + 1))).setD HV.out.2 (p := ⟨w4.heap.size, 1, none⟩) (by simp; omega) (.slice om M.length cm))
            have HFm := hide HV.out.2
            clear HV
            clear HG1w5 HXw5 HYw5 HMw5
            generalize ((w5.setCell ⟨w4.heap.size, 0, none⟩ (.int .i64 (va + 1))).setCell ⟨w4.heap.size, 1, none⟩ (.slice om M.length cm)) = w5s at *
            have HV := hide (Blks.nil w5s)
            refine (HCb.out _ (HLb.out.below (HG1w5s.out.on HV.out.2.2).2.2)).mono ?_
            rintro e w6 ⟨rfl, hb⟩
            have HVw6 := hide (HV.out.on hb)
            have HG1w6 := hide (HG1w5s.out.on HVw6.out.2.2)
            have HXw6 := hide (HXw5s.out.on HVw6.out.2.2)
            have HYw6 := hide (HYw5s.out.on HVw6.out.2.2)
            have HMw6 := hide (HMw5s.out.on HVw6.out.2.2)
            clear hb HG1w5s HXw5s HYw5s HMw5s HV
            have lG1_0 := HG1w6.out.lt 0 w.heap.size (by simp) rfl
            have cG1_0_0 := HG1w6.out.cell 0 0 w.heap.size _ _ _ rfl rfl rfl
            have cG1_0_1 := HG1w6.out.cell 0 1 w.heap.size _ _ _ rfl rfl rfl
            have lG1_1 := HG1w6.out.lt 1 (w.heap.size + 1) (by simp) rfl
            have cG1_1_0 := HG1w6.out.cell 1 0 (w.heap.size + 1) _ _ _ rfl rfl rfl
            have cG1_1_1 := HG1w6.out.cell 1 1 (w.heap.size + 1) _ _ _ rfl rfl rfl
            have lX_0 := HXw6.out.lt 0 w1.heap.size (by simp) rfl
            have cX_0_0 := HXw6.out.cell 0 0 w1.heap.size _ _ _ rfl rfl rfl
            have cX_0_1 := HXw6.out.cell 0 1 w1.heap.size _ _ _ rfl rfl rfl
            have lY_0 := HYw6.out.lt 0 w2.heap.size (by simp) rfl
            have cY_0_0 := HYw6.out.cell 0 0 w2.heap.size _ _ _ rfl rfl rfl
            have cY_0_1 := HYw6.out.cell 0 1 w2.heap.size _ _ _ rfl rfl rfl
            have lM_0 := HMw6.out.lt 0 w4.heap.size (by simp) rfl
            have cM_0_0 := HMw6.out.cell 0 0 w4.heap.size _ _ _ rfl rfl rfl
            have cM_0_1 := HMw6.out.cell 0 1 w4.heap.size _ _ _ rfl rfl rfl
            have lM_1 := HMw6.out.lt 1 (w4.heap.size + 1) (by simp) rfl
            have cM_1_0 := HMw6.out.cell 1 0 (w4.heap.size + 1) _ _ _ rfl rfl rfl
            have fM_1_0 := HMw6.out.frozen 1 0 (w4.heap.size + 1) _ _ rfl rfl
            have cM_1_1 := HMw6.out.cell 1 1 (w4.heap.size + 1) _ _ _ rfl rfl rfl
            have fM_1_1 := HMw6.out.frozen 1 1 (w4.heap.size + 1) _ _ rfl rfl
            go_wp2_with fail
            refine (HW.out _).mono ?_
            rintro e w7 ⟨rfl, hb⟩
            have HG1w7 := hide (HG1w6.out.on hb)
            have HXw7 := hide (HXw6.out.on hb)
            have HYw7 := hide (HYw6.out.on hb)
            have HMw7 := hide (HMw6.out.on hb)
            have HVw7 := hide (HVw6.out.on hb)
            clear lG1_0 cG1_0_0 cG1_0_1 lG1_1 cG1_1_0 cG1_1_1 lX_0 cX_0_0 cX_0_1 lY_0 cY_0_0 cY_0_1 lM_0 cM_0_0 cM_0_1 lM_1 cM_1_0 fM_1_0 cM_1_1 fM_1_1
            clear hb HG1w6 HXw6 HYw6 HMw6 HVw6
            have lG1_0 := HG1w7.out.lt 0 w.heap.size (by simp) rfl
            have cG1_0_0 := HG1w7.out.cell 0 0 w.heap.size _ _ _ rfl rfl rfl
            have cG1_0_1 := HG1w7.out.cell 0 1 w.heap.size _ _ _ rfl rfl rfl
            have lG1_1 := HG1w7.out.lt 1 (w.heap.size + 1) (by simp) rfl
            have cG1_1_0 := HG1w7.out.cell 1 0 (w.heap.size + 1) _ _ _ rfl rfl rfl
            have cG1_1_1 := HG1w7.out.cell 1 1 (w.heap.size + 1) _ _ _ rfl rfl rfl
            have lX_0 := HXw7.out.lt 0 w1.heap.size (by simp) rfl
            have cX_0_0 := HXw7.out.cell 0 0 w1.heap.size _ _ _ rfl rfl rfl
            have cX_0_1 := HXw7.out.cell 0 1 w1.heap.size _ _ _ rfl rfl rfl
            have lY_0 := HYw7.out.lt 0 w2.heap.size (by simp) rfl
            have cY_0_0 := HYw7.out.cell 0 0 w2.heap.size _ _ _ rfl rfl rfl
            have cY_0_1 := HYw7.out.cell 0 1 w2.heap.size _ _ _ rfl rfl rfl
            have lM_0 := HMw7.out.lt 0 w4.heap.size (by simp) rfl
            have cM_0_0 := HMw7.out.cell 0 0 w4.heap.size _ _ _ rfl rfl rfl
            have cM_0_1 := HMw7.out.cell 0 1 w4.heap.size _ _ _ rfl rfl rfl
            have lM_1 := HMw7.out.lt 1 (w4.heap.size + 1) (by simp) rfl
            have cM_1_0 := HMw7.out.cell 1 0 (w4.heap.size + 1) _ _ _ rfl rfl rfl
            have fM_1_0 := HMw7.out.frozen 1 0 (w4.heap.size + 1) _ _ rfl rfl
            have cM_1_1 := HMw7.out.cell 1 1 (w4.heap.size + 1) _ _ _ rfl rfl rfl
            have fM_1_1 := HMw7.out.frozen 1 1 (w4.heap.size + 1) _ _ rfl rfl
            go_wp2_with fail
            have VI7 := hide (VI.out.below HVw7.out.2.2)
            clear VI HVw7
            clear lG1_0 cG1_0_0 cG1_0_1 lG1_1 cG1_1_0 cG1_1_1 lX_0 cX_0_0 cX_0_1 lY_0 cY_0_0 cY_0_1 lM_0 cM_0_0 cM_0_1 lM_1 cM_1_0 fM_1_0 cM_1_1 fM_1_1
            have HG1w7s := hide ((HG1w7.out.set ⟨w4.heap.size + 1, 0, none⟩ (by simp; try omega) (.int .i64 va)).set ⟨w4.heap.size + 1, 1, none⟩ (by simp; try omega) (.slice oa La.length ca))
            have HXw7s := hide ((HXw7.out.set ⟨w4.heap.size + 1, 0, none⟩ (by simp; try omega) (.int .i64 va)).set ⟨w4.heap.size + 1, 1, none⟩ (by simp; try omega) (.slice oa La.length ca))
            have HYw7s := hide ((HYw7.out.set ⟨w4.heap.size + 1, 0, none⟩ (by simp; try omega) (.int .i64 va)).set ⟨w4.heap.size + 1, 1, none⟩ (by simp; try omega) (.slice oa La.length ca))
            have HMw7s : Hid (Blks w4 ((w7.setCell ⟨w4.heap.size + 1, 0, none⟩ (.int .i64 va)).setCell ⟨w4.heap.size + 1, 1, none⟩ (.slice oa La.length ca)) [.cells #[.int .i64 (va + 1), .slice om M.length cm] 45, .cells #[.int .i64 va, .slice oa La.length ca] 45]) := hide ((HMw7.out.put 1 0 (w4.heap.size + 1) _ _ (.int .i64 va) rfl rfl).put 1 1 (w4.heap.size + 1) _ _ (.slice oa La.length ca) rfl rfl)
            have VI : Hid (IntsV ((w7.setCell ⟨w4.heap.size + 1, 0, none⟩ (.int .i64 va)).setCell ⟨w4.heap.size + 1, 1, none⟩ (.slice oa La.length ca)) (.slice om M.length cm) M) := hide ((VI7.out.setD HFm.out (p := ⟨w4.heap.size + 1, 0, none⟩) (by simp) (.int .i64 va)).setD HFm.out (p := ⟨w4.heap.size + 1, 1, none⟩) (by simp) (.slice oa La.length ca))
            clear VI7
            clear HG1w7 HXw7 HYw7 HMw7
            generalize ((w7.setCell ⟨w4.heap.size + 1, 0, none⟩ (.int .i64 va)).setCell ⟨w4.heap.size + 1, 1, none⟩ (.slice oa La.length ca)) = w7s at *
            have HV := hide (Blks.nil w7s)
            refine (deniedBegun_any _).mono ?_
            rintro e w8 ⟨rfl, hb⟩
            have HVw8 := hide (HV.out.on hb)
            have HG1w8 := hide (HG1w7s.out.on HVw8.out.2.2)
            have HXw8 := hide (HXw7s.out.on HVw8.out.2.2)
            have HYw8 := hide (HYw7s.out.on HVw8.out.2.2)
            have HMw8 := hide (HMw7s.out.on HVw8.out.2.2)
            clear hb HG1w7s HXw7s HYw7s HMw7s HV
            have lG1_0 := HG1w8.out.lt 0 w.heap.size (by simp) rfl
            have cG1_0_0 := HG1w8.out.cell 0 0 w.heap.size _ _ _ rfl rfl rfl
            have cG1_0_1 := HG1w8.out.cell 0 1 w.heap.size _ _ _ rfl rfl rfl
            have lG1_1 := HG1w8.out.lt 1 (w.heap.size + 1) (by simp) rfl
            have cG1_1_0 := HG1w8.out.cell 1 0 (w.heap.size + 1) _ _ _ rfl rfl rfl
            have cG1_1_1 := HG1w8.out.cell 1 1 (w.heap.size + 1) _ _ _ rfl rfl rfl
            have lX_0 := HXw8.out.lt 0 w1.heap.size (by simp) rfl
            have cX_0_0 := HXw8.out.cell 0 0 w1.heap.size _ _ _ rfl rfl rfl
            have cX_0_1 := HXw8.out.cell 0 1 w1.heap.size _ _ _ rfl rfl rfl
            have lY_0 := HYw8.out.lt 0 w2.heap.size (by simp) rfl
            have cY_0_0 := HYw8.out.cell 0 0 w2.heap.size _ _ _ rfl rfl rfl
            have cY_0_1 := HYw8.out.cell 0 1 w2.heap.size _ _ _ rfl rfl rfl
            have lM_0 := HMw8.out.lt 0 w4.heap.size (by simp) rfl
            have cM_0_0 := HMw8.out.cell 0 0 w4.heap.size _ _ _ rfl rfl rfl
            have cM_0_1 := HMw8.out.cell 0 1 w4.heap.size _ _ _ rfl rfl rfl
            have lM_1 := HMw8.out.lt 1 (w4.heap.size + 1) (by simp) rfl
            have cM_1_0 := HMw8.out.cell 1 0 (w4.heap.size + 1) _ _ _ rfl rfl rfl
            have cM_1_1 := HMw8.out.cell 1 1 (w4.heap.size + 1) _ _ _ rfl rfl rfl
            go_wp2_with fail
            refine (HC.out _ (HLa.out.below HG1w8.out.2.2)).mono ?_
            rintro e w9 ⟨rfl, hb⟩
            have HG1w9 := hide (HG1w8.out.on hb)
            have HXw9 := hide (HXw8.out.on hb)
            have HYw9 := hide (HYw8.out.on hb)
            have HMw9 := hide (HMw8.out.on hb)
            have HVw9 := hide (HVw8.out.on hb)
            clear lG1_0 cG1_0_0 cG1_0_1 lG1_1 cG1_1_0 cG1_1_1 lX_0 cX_0_0 cX_0_1 lY_0 cY_0_0 cY_0_1 lM_0 cM_0_0 cM_0_1 lM_1 cM_1_0 cM_1_1
            clear hb HG1w8 HXw8 HYw8 HMw8 HVw8
            have lG1_0 := HG1w9.out.lt 0 w.heap.size (by simp) rfl
            have cG1_0_0 := HG1w9.out.cell 0 0 w.heap.size _ _ _ rfl rfl rfl
            have cG1_0_1 := HG1w9.out.cell 0 1 w.heap.size _ _ _ rfl rfl rfl
            have lG1_1 := HG1w9.out.lt 1 (w.heap.size + 1) (by simp) rfl
            have cG1_1_0 := HG1w9.out.cell 1 0 (w.heap.size + 1) _ _ _ rfl rfl rfl
            have cG1_1_1 := HG1w9.out.cell 1 1 (w.heap.size + 1) _ _ _ rfl rfl rfl
            have lX_0 := HXw9.out.lt 0 w1.heap.size (by simp) rfl
            have cX_0_0 := HXw9.out.cell 0 0 w1.heap.size _ _ _ rfl rfl rfl
            have cX_0_1 := HXw9.out.cell 0 1 w1.heap.size _ _ _ rfl rfl rfl
            have lY_0 := HYw9.out.lt 0 w2.heap.size (by simp) rfl
            have cY_0_0 := HYw9.out.cell 0 0 w2.heap.size _ _ _ rfl rfl rfl
            have cY_0_1 := HYw9.out.cell 0 1 w2.heap.size _ _ _ rfl rfl rfl
            have lM_0 := HMw9.out.lt 0 w4.heap.size (by simp) rfl
            have cM_0_0 := HMw9.out.cell 0 0 w4.heap.size _ _ _ rfl rfl rfl
            have cM_0_1 := HMw9.out.cell 0 1 w4.heap.size _ _ _ rfl rfl rfl
            have lM_1 := HMw9.out.lt 1 (w4.heap.size + 1) (by simp) rfl
            have cM_1_0 := HMw9.out.cell 1 0 (w4.heap.size + 1) _ _ _ rfl rfl rfl
            have cM_1_1 := HMw9.out.cell 1 1 (w4.heap.size + 1) _ _ _ rfl rfl rfl
            go_wp2_with fail
            refine (HDx.out _ ox om cx cm (HX.out.below HXw9.out.2.2) (VI.out.below HVw9.out.2.2)).mono ?_
            rintro e w10 ⟨rfl, hb⟩
            have HG1w10 := hide (HG1w9.out.on hb)
            have HXw10 := hide (HXw9.out.on hb)
            have HYw10 := hide (HYw9.out.on hb)
            have HMw10 := hide (HMw9.out.on hb)
            have HVw10 := hide (HVw9.out.on hb)
            clear lG1_0 cG1_0_0 cG1_0_1 lG1_1 cG1_1_0 cG1_1_1 lX_0 cX_0_0 cX_0_1 lY_0 cY_0_0 cY_0_1 lM_0 cM_0_0 cM_0_1 lM_1 cM_1_0 cM_1_1
            clear hb HG1w9 HXw9 HYw9 HMw9 HVw9
            have lG1_0 := HG1w10.out.lt 0 w.heap.size (by simp) rfl
            have cG1_0_0 := HG1w10.out.cell 0 0 w.heap.size _ _ _ rfl rfl rfl
            have cG1_0_1 := HG1w10.out.cell 0 1 w.heap.size _ _ _ rfl rfl rfl
            have lG1_1 := HG1w10.out.lt 1 (w.heap.size + 1) (by simp) rfl
            have cG1_1_0 := HG1w10.out.cell 1 0 (w.heap.size + 1) _ _ _ rfl rfl rfl
            have cG1_1_1 := HG1w10.out.cell 1 1 (w.heap.size + 1) _ _ _ rfl rfl rfl
            have lX_0 := HXw10.out.lt 0 w1.heap.size (by simp) rfl
            have cX_0_0 := HXw10.out.cell 0 0 w1.heap.size _ _ _ rfl rfl rfl
            have cX_0_1 := HXw10.out.cell 0 1 w1.heap.size _ _ _ rfl rfl rfl
            have lY_0 := HYw10.out.lt 0 w2.heap.size (by simp) rfl
            have cY_0_0 := HYw10.out.cell 0 0 w2.heap.size _ _ _ rfl rfl rfl
            have cY_0_1 := HYw10.out.cell 0 1 w2.heap.size _ _ _ rfl rfl rfl
            have lM_0 := HMw10.out.lt 0 w4.heap.size (by simp) rfl
            have cM_0_0 := HMw10.out.cell 0 0 w4.heap.size _ _ _ rfl rfl rfl
            have cM_0_1 := HMw10.out.cell 0 1 w4.heap.size _ _ _ rfl rfl rfl
            have lM_1 := HMw10.out.lt 1 (w4.heap.size + 1) (by simp) rfl
            have cM_1_0 := HMw10.out.cell 1 0 (w4.heap.size + 1) _ _ _ rfl rfl rfl
            have cM_1_1 := HMw10.out.cell 1 1 (w4.heap.size + 1) _ _ _ rfl rfl rfl
            go_wp2_with fail
            refine (HDy.out _ on oa cn ca (HY.out.below HYw10.out.2.2) (HLa.out.below HG1w10.out.2.2)).mono ?_
            rintro e w11 ⟨rfl, hb⟩
            have HG1w11 := hide (HG1w10.out.on hb)
            have HXw11 := hide (HXw10.out.on hb)
            have HYw11 := hide (HYw10.out.on hb)
            have HMw11 := hide (HMw10.out.on hb)
            have HVw11 := hide (HVw10.out.on hb)
            clear lG1_0 cG1_0_0 cG1_0_1 lG1_1 cG1_1_0 cG1_1_1 lX_0 cX_0_0 cX_0_1 lY_0 cY_0_0 cY_0_1 lM_0 cM_0_0 cM_0_1 lM_1 cM_1_0 cM_1_1
            clear hb HG1w10 HXw10 HYw10 HMw10 HVw10
            have lG1_0 := HG1w11.out.lt 0 w.heap.size (by simp) rfl
            have cG1_0_0 := HG1w11.out.cell 0 0 w.heap.size _ _ _ rfl rfl rfl
            have cG1_0_1 := HG1w11.out.cell 0 1 w.heap.size _ _ _ rfl rfl rfl
            have lG1_1 := HG1w11.out.lt 1 (w.heap.size + 1) (by simp) rfl
            have cG1_1_0 := HG1w11.out.cell 1 0 (w.heap.size + 1) _ _ _ rfl rfl rfl
            have cG1_1_1 := HG1w11.out.cell 1 1 (w.heap.size + 1) _ _ _ rfl rfl rfl
            have lX_0 := HXw11.out.lt 0 w1.heap.size (by simp) rfl
            have cX_0_0 := HXw11.out.cell 0 0 w1.heap.size _ _ _ rfl rfl rfl
            have cX_0_1 := HXw11.out.cell 0 1 w1.heap.size _ _ _ rfl rfl rfl
            have lY_0 := HYw11.out.lt 0 w2.heap.size (by simp) rfl
            have cY_0_0 := HYw11.out.cell 0 0 w2.heap.size _ _ _ rfl rfl rfl
            have cY_0_1 := HYw11.out.cell 0 1 w2.heap.size _ _ _ rfl rfl rfl
            have lM_0 := HMw11.out.lt 0 w4.heap.size (by simp) rfl
            have cM_0_0 := HMw11.out.cell 0 0 w4.heap.size _ _ _ rfl rfl rfl
            have cM_0_1 := HMw11.out.cell 0 1 w4.heap.size _ _ _ rfl rfl rfl
            have lM_1 := HMw11.out.lt 1 (w4.heap.size + 1) (by simp) rfl
            have cM_1_0 := HMw11.out.cell 1 0 (w4.heap.size + 1) _ _ _ rfl rfl rfl
            have cM_1_1 := HMw11.out.cell 1 1 (w4.heap.size + 1) _ _ _ rfl rfl rfl
            go_wp2_with fail
            refine (HI.out _ (HLa.out.below HG1w11.out.2.2)).mono ?_
            rintro e w12 ⟨rfl, rfl⟩
            go_wp2_with fail
            go_ret
            exact ⟨by first | rfl | simp, HG1w11.out.2.2⟩
        · rw [if_neg hub, if_neg hub] at HN
          have hub' : (chkD vb Lb == 0) = false := by simpa using hub
          generalize chkD vb Lb = Eb at *
          clear HNl HM
          go_enter Try.func5, Try.ntmps5
          go_wp2_with fail
          have HG1 := hide (((Blks.nil w).more (.cells #[.int .i64 va, .slice oa La.length ca] 45) (by simp)).more (.cells #[.int .i64 vb, .slice ob Lb.length cb] 45) (by simp))
          refine (HA.out _ (HLa.out.below HG1.out.2.2)).mono ?_
          rintro e w1 ⟨⟨x, rfl, ⟨-, rfl, ox, cx, rfl, hx⟩⟩, hb⟩
          have HG1w1 := hide (HG1.out.on hb)
          have HX := hide hx.1
          clear hx
          clear hb HG1
          have lG1_0 := HG1w1.out.lt 0 w.heap.size (by simp) rfl
          have cG1_0_0 := HG1w1.out.cell 0 0 w.heap.size _ _ _ rfl rfl rfl
          have cG1_0_1 := HG1w1.out.cell 0 1 w.heap.size _ _ _ rfl rfl rfl
          have lG1_1 := HG1w1.out.lt 1 (w.heap.size + 1) (by simp) rfl
          have cG1_1_0 := HG1w1.out.cell 1 0 (w.heap.size + 1) _ _ _ rfl rfl rfl
          have cG1_1_1 := HG1w1.out.cell 1 1 (w.heap.size + 1) _ _ _ rfl rfl rfl
          go_wp2_with fail
          have HX := hide ((Blks.nil w1).more (.cells #[.int .i64 (va + 1), .slice ox M.length cx] 45) (by simp))
          refine (HN.out _ (HLa.out.below (HG1w1.out.on HX.out.2.2).2.2) (HLb.out.below (HG1w1.out.on HX.out.2.2).2.2)).mono ?_
          rintro e w2 ⟨⟨x, rfl, ⟨-, rfl, on, cn, rfl, hx⟩⟩, hb⟩
          have HXw2 := hide (HX.out.on hb)
          have HG1w2 := hide (HG1w1.out.on HXw2.out.2.2)
          have HY := hide hx.1
          clear hx
          clear lG1_0 cG1_0_0 cG1_0_1 lG1_1 cG1_1_0 cG1_1_1
          clear hb HG1w1 HX
          have lG1_0 := HG1w2.out.lt 0 w.heap.size (by simp) rfl
          have cG1_0_0 := HG1w2.out.cell 0 0 w.heap.size _ _ _ rfl rfl rfl
          have cG1_0_1 := HG1w2.out.cell 0 1 w.heap.size _ _ _ rfl rfl rfl
          have lG1_1 := HG1w2.out.lt 1 (w.heap.size + 1) (by simp) rfl
          have cG1_1_0 := HG1w2.out.cell 1 0 (w.heap.size + 1) _ _ _ rfl rfl rfl
          have cG1_1_1 := HG1w2.out.cell 1 1 (w.heap.size + 1) _ _ _ rfl rfl rfl
          have lX_0 := HXw2.out.lt 0 w1.heap.size (by simp) rfl
          have cX_0_0 := HXw2.out.cell 0 0 w1.heap.size _ _ _ rfl rfl rfl
          have cX_0_1 := HXw2.out.cell 0 1 w1.heap.size _ _ _ rfl rfl rfl
          go_wp2_with fail
          have HY := hide ((Blks.nil w2).more (.cells #[.int .i64 0, .slice on 0 cn] 45) (by simp))
          refine (HH.out _ (HLa.out.below (HG1w2.out.on HY.out.2.2).2.2)).mono ?_
          rintro e w3 ⟨rfl, hb⟩
          have HYw3 := hide (HY.out.on hb)
          have HG1w3 := hide (HG1w2.out.on HYw3.out.2.2)
          have HXw3 := hide (HXw2.out.on HYw3.out.2.2)
          clear lG1_0 cG1_0_0 cG1_0_1 lG1_1 cG1_1_0 cG1_1_1 lX_0 cX_0_0 cX_0_1
          clear hb HG1w2 HXw2 HY
          have lG1_0 := HG1w3.out.lt 0 w.heap.size (by simp) rfl
          have cG1_0_0 := HG1w3.out.cell 0 0 w.heap.size _ _ _ rfl rfl rfl
          have cG1_0_1 := HG1w3.out.cell 0 1 w.heap.size _ _ _ rfl rfl rfl
          have lG1_1 := HG1w3.out.lt 1 (w.heap.size + 1) (by simp) rfl
          have cG1_1_0 := HG1w3.out.cell 1 0 (w.heap.size + 1) _ _ _ rfl rfl rfl
          have cG1_1_1 := HG1w3.out.cell 1 1 (w.heap.size + 1) _ _ _ rfl rfl rfl
          have lX_0 := HXw3.out.lt 0 w1.heap.size (by simp) rfl
          have cX_0_0 := HXw3.out.cell 0 0 w1.heap.size _ _ _ rfl rfl rfl
          have cX_0_1 := HXw3.out.cell 0 1 w1.heap.size _ _ _ rfl rfl rfl
          have lY_0 := HYw3.out.lt 0 w2.heap.size (by simp) rfl
          have cY_0_0 := HYw3.out.cell 0 0 w2.heap.size _ _ _ rfl rfl rfl
          have cY_0_1 := HYw3.out.cell 0 1 w2.heap.size _ _ _ rfl rfl rfl
          go_wp2_with fail
          refine (HCa.out _ (HLa.out.below HG1w3.out.2.2)).mono ?_
          rintro e w4 ⟨rfl, hb⟩
          have HG1w4 := hide (HG1w3.out.on hb)
          have HXw4 := hide (HXw3.out.on hb)
          have HYw4 := hide (HYw3.out.on hb)
          clear lG1_0 cG1_0_0 cG1_0_1 lG1_1 cG1_1_0 cG1_1_1 lX_0 cX_0_0 cX_0_1 lY_0 cY_0_0 cY_0_1
          clear hb HG1w3 HXw3 HYw3
          have lG1_0 := HG1w4.out.lt 0 w.heap.size (by simp) rfl
          have cG1_0_0 := HG1w4.out.cell 0 0 w.heap.size _ _ _ rfl rfl rfl
          have cG1_0_1 := HG1w4.out.cell 0 1 w.heap.size _ _ _ rfl rfl rfl
          have lG1_1 := HG1w4.out.lt 1 (w.heap.size + 1) (by simp) rfl
          have cG1_1_0 := HG1w4.out.cell 1 0 (w.heap.size + 1) _ _ _ rfl rfl rfl
          have cG1_1_1 := HG1w4.out.cell 1 1 (w.heap.size + 1) _ _ _ rfl rfl rfl
          have lX_0 := HXw4.out.lt 0 w1.heap.size (by simp) rfl
          have cX_0_0 := HXw4.out.cell 0 0 w1.heap.size _ _ _ rfl rfl rfl
          have cX_0_1 := HXw4.out.cell 0 1 w1.heap.size _ _ _ rfl rfl rfl
          have lY_0 := HYw4.out.lt 0 w2.heap.size (by simp) rfl
          have cY_0_0 := HYw4.out.cell 0 0 w2.heap.size _ _ _ rfl rfl rfl
          have cY_0_1 := HYw4.out.cell 0 1 w2.heap.size _ _ _ rfl rfl rfl
          go_wp2_with fail
          clear lG1_0 cG1_0_0 cG1_0_1 lG1_1 cG1_1_0 cG1_1_1 lX_0 cX_0_0 cX_0_1 lY_0 cY_0_0 cY_0_1
          have zG1 := HG1w4.out.2.1
          simp only [List.length_append, List.length_cons, List.length_nil] at zG1
          have zX := HXw4.out.2.1
          simp only [List.length_append, List.length_cons, List.length_nil] at zX
          have zY := HYw4.out.2.1
          simp only [List.length_append, List.length_cons, List.length_nil] at zY
          have HM := hide (((Blks.nil w4).more (.cells #[.int .i64 0, .slice none 0 0] 45) (by simp)).more (.cells #[.int .i64 0, .slice none 0 0] 45) (by simp))
          refine (HE0.out _ (HLa.out.below (HG1w4.out.on HM.out.2.2).2.2) trivial).mono ?_
          rintro e w5 ⟨⟨om, cm, rfl, hm, hfm⟩, hb⟩
          have HMw5 := hide (HM.out.on hb)
          have HG1w5 := hide (HG1w4.out.on HMw5.out.2.2)
          have HXw5 := hide (HXw4.out.on HMw5.out.2.2)
          have HYw5 := hide (HYw4.out.on HMw5.out.2.2)
          have HV := hide (And.intro hm (hfm.monoD (show w4.heap.size + 1 + 1 ≤ _ from by simp)))
          clear hm hfm
          clear hb HG1w4 HXw4 HYw4 HM
          have lG1_0 := HG1w5.out.lt 0 w.heap.size (by simp) rfl
          have cG1_0_0 := HG1w5.out.cell 0 0 w.heap.size _ _ _ rfl rfl rfl
          have cG1_0_1 := HG1w5.out.cell 0 1 w.heap.size _ _ _ rfl rfl rfl
          have lG1_1 := HG1w5.out.lt 1 (w.heap.size + 1) (by simp) rfl
          have cG1_1_0 := HG1w5.out.cell 1 0 (w.heap.size + 1) _ _ _ rfl rfl rfl
          have cG1_1_1 := HG1w5.out.cell 1 1 (w.heap.size + 1) _ _ _ rfl rfl rfl
          have lX_0 := HXw5.out.lt 0 w1.heap.size (by simp) rfl
          have cX_0_0 := HXw5.out.cell 0 0 w1.heap.size _ _ _ rfl rfl rfl
          have cX_0_1 := HXw5.out.cell 0 1 w1.heap.size _ _ _ rfl rfl rfl
          have lY_0 := HYw5.out.lt 0 w2.heap.size (by simp) rfl
          have cY_0_0 := HYw5.out.cell 0 0 w2.heap.size _ _ _ rfl rfl rfl
          have cY_0_1 := HYw5.out.cell 0 1 w2.heap.size _ _ _ rfl rfl rfl
          have lM_0 := HMw5.out.lt 0 w4.heap.size (by simp) rfl
          have cM_0_0 := HMw5.out.cell 0 0 w4.heap.size _ _ _ rfl rfl rfl
          have fM_0_0 := HMw5.out.frozen 0 0 w4.heap.size _ _ rfl rfl
          have cM_0_1 := HMw5.out.cell 0 1 w4.heap.size _ _ _ rfl rfl rfl
          have fM_0_1 := HMw5.out.frozen 0 1 w4.heap.size _ _ rfl rfl
          have lM_1 := HMw5.out.lt 1 (w4.heap.size + 1) (by simp) rfl
          have cM_1_0 := HMw5.out.cell 1 0 (w4.heap.size + 1) _ _ _ rfl rfl rfl
          have fM_1_0 := HMw5.out.frozen 1 0 (w4.heap.size + 1) _ _ rfl rfl
          have cM_1_1 := HMw5.out.cell 1 1 (w4.heap.size + 1) _ _ _ rfl rfl rfl
          have fM_1_1 := HMw5.out.frozen 1 1 (w4.heap.size + 1) _ _ rfl rfl
          go_wp2_with fail
          clear lG1_0 cG1_0_0 cG1_0_1 lG1_1 cG1_1_0 cG1_1_1 lX_0 cX_0_0 cX_0_1 lY_0 cY_0_0 cY_0_1 lM_0 cM_0_0 fM_0_0 cM_0_1 fM_0_1 lM_1 cM_1_0 fM_1_0 cM_1_1 fM_1_1
          have HG1w5s := hide ((HG1w5.out.set ⟨w4.heap.size, 0, none⟩ (by simp; try omega) (.int .i64 (va + 1))).set ⟨w4.heap.size, 1, none⟩ (by simp; try omega) (.slice om M.length cm))
          have HXw5s := hide ((HXw5.out.set ⟨w4.heap.size, 0, none⟩ (by simp; try omega) (.int .i64 (va + 1))).set ⟨w4.heap.size, 1, none⟩ (by simp; try omega) (.slice om M.length cm))
          have HYw5s := hide ((HYw5.out.set ⟨w4.heap.size, 0, none⟩ (by simp; try omega) (.int .i64 (va + 1))).set ⟨w4.heap.size, 1, none⟩ (by simp; try omega) (.slice om M.length cm))
          have HMw5s : Hid (Blks w4 ((w5.setCell ⟨w4.heap.size, 0, none⟩ (.int .i64 (va + 1))).setCell ⟨w4.heap.size, 1, none⟩ (.slice om M.length cm)) [.cells #[.int .i64 (va + 1), .slice om M.length cm] 45, .cells #[.int .i64 0, .slice none 0 0] 45]) := hide ((HMw5.out.put 0 0 w4.heap.size _ _ (.int .i64 (va + 1)) rfl rfl).put 0 1 w4.heap.size _ _ (.slice om M.length cm) rfl rfl)
          have VI : Hid (IntsV ((w5.setCell ⟨w4.heap.size, 0, none⟩ (.int .i64 (va + 1))).setCell ⟨w4.heap.size, 1, none⟩ (.slice om M.length cm)) (.slice om M.length cm) M) := hide ((HV.out.1.setD HV.out.2 (p := ⟨w4.heap.size, 0, none⟩) (by simp; omega) (.int .i64 (va + 1))).setD HV.out.2 (p := ⟨w4.heap.size, 1, none⟩) (by simp; omega) (.slice om M.length cm))
          have HFm := hide HV.out.2
          clear HV
          clear HG1w5 HXw5 HYw5 HMw5
          generalize ((w5.setCell ⟨w4.heap.size, 0, none⟩ (.int .i64 (va + 1))).setCell ⟨w4.heap.size, 1, none⟩ (.slice om M.length cm)) = w5s at *
          have HV := hide (Blks.nil w5s)
          refine (HCb.out _ (HLb.out.below (HG1w5s.out.on HV.out.2.2).2.2)).mono ?_
          rintro e w6 ⟨rfl, hb⟩
          have HVw6 := hide (HV.out.on hb)
          have HG1w6 := hide (HG1w5s.out.on HVw6.out.2.2)
          have HXw6 := hide (HXw5s.out.on HVw6.out.2.2)
          have HYw6 := hide (HYw5s.out.on HVw6.out.2.2)
          have HMw6 := hide (HMw5s.out.on HVw6.out.2.2)
          clear hb HG1w5s HXw5s HYw5s HMw5s HV
          have lG1_0 := HG1w6.out.lt 0 w.heap.size (by simp) rfl
          have cG1_0_0 := HG1w6.out.cell 0 0 w.heap.size _ _ _ rfl rfl rfl
          have cG1_0_1 := HG1w6.out.cell 0 1 w.heap.size _ _ _ rfl rfl rfl
          have lG1_1 := HG1w6.out.lt 1 (w.heap.size + 1) (by simp) rfl
          have cG1_1_0 := HG1w6.out.cell 1 0 (w.heap.size + 1) _ _ _ rfl rfl rfl
          have cG1_1_1 := HG1w6.out.cell 1 1 (w.heap.size + 1) _ _ _ rfl rfl rfl
          have lX_0 := HXw6.out.lt 0 w1.heap.size (by simp) rfl
          have cX_0_0 := HXw6.out.cell 0 0 w1.heap.size _ _ _ rfl rfl rfl
          have cX_0_1 := HXw6.out.cell 0 1 w1.heap.size _ _ _ rfl rfl rfl
          have lY_0 := HYw6.out.lt 0 w2.heap.size (by simp) rfl
          have cY_0_0 := HYw6.out.cell 0 0 w2.heap.size _ _ _ rfl rfl rfl
          have cY_0_1 := HYw6.out.cell 0 1 w2.heap.size _ _ _ rfl rfl rfl
          have lM_0 := HMw6.out.lt 0 w4.heap.size (by simp) rfl
          have cM_0_0 := HMw6.out.cell 0 0 w4.heap.size _ _ _ rfl rfl rfl
          have cM_0_1 := HMw6.out.cell 0 1 w4.heap.size _ _ _ rfl rfl rfl
          have lM_1 := HMw6.out.lt 1 (w4.heap.size + 1) (by simp) rfl
          have cM_1_0 := HMw6.out.cell 1 0 (w4.heap.size + 1) _ _ _ rfl rfl rfl
          have fM_1_0 := HMw6.out.frozen 1 0 (w4.heap.size + 1) _ _ rfl rfl
          have cM_1_1 := HMw6.out.cell 1 1 (w4.heap.size + 1) _ _ _ rfl rfl rfl
          have fM_1_1 := HMw6.out.frozen 1 1 (w4.heap.size + 1) _ _ rfl rfl
          go_wp2_with fail
          refine (deniedBegun_any _).mono ?_
          rintro e w8 ⟨rfl, hb⟩
          have HG1w8 := hide (HG1w6.out.on hb)
          have HXw8 := hide (HXw6.out.on hb)
          have HYw8 := hide (HYw6.out.on hb)
          have HMw8 := hide (HMw6.out.on hb)
          have HVw8 := hide (HVw6.out.on hb)
          clear lG1_0 cG1_0_0 cG1_0_1 lG1_1 cG1_1_0 cG1_1_1 lX_0 cX_0_0 cX_0_1 lY_0 cY_0_0 cY_0_1 lM_0 cM_0_0 cM_0_1 lM_1 cM_1_0 fM_1_0 cM_1_1 fM_1_1
          clear hb HG1w6 HXw6 HYw6 HMw6 HVw6
          have lG1_0 := HG1w8.out.lt 0 w.heap.size (by simp) rfl
          have cG1_0_0 := HG1w8.out.cell 0 0 w.heap.size _ _ _ rfl rfl rfl
          have cG1_0_1 := HG1w8.out.cell 0 1 w.heap.size _ _ _ rfl rfl rfl
          have lG1_1 := HG1w8.out.lt 1 (w.heap.size + 1) (by simp) rfl
          have cG1_1_0 := HG1w8.out.cell 1 0 (w.heap.size + 1) _ _ _ rfl rfl rfl
          have cG1_1_1 := HG1w8.out.cell 1 1 (w.heap.size + 1) _ _ _ rfl rfl rfl
          have lX_0 := HXw8.out.lt 0 w1.heap.size (by simp) rfl
          have cX_0_0 := HXw8.out.cell 0 0 w1.heap.size _ _ _ rfl rfl rfl
          have cX_0_1 := HXw8.out.cell 0 1 w1.heap.size _ _ _ rfl rfl rfl
          have lY_0 := HYw8.out.lt 0 w2.heap.size (by simp) rfl
          have cY_0_0 := HYw8.out.cell 0 0 w2.heap.size _ _ _ rfl rfl rfl
          have cY_0_1 := HYw8.out.cell 0 1 w2.heap.size _ _ _ rfl rfl rfl
          have lM_0 := HMw8.out.lt 0 w4.heap.size (by simp) rfl
          have cM_0_0 := HMw8.out.cell 0 0 w4.heap.size _ _ _ rfl rfl rfl
          have cM_0_1 := HMw8.out.cell 0 1 w4.heap.size _ _ _ rfl rfl rfl
          have lM_1 := HMw8.out.lt 1 (w4.heap.size + 1) (by simp) rfl
          have cM_1_0 := HMw8.out.cell 1 0 (w4.heap.size + 1) _ _ _ rfl rfl rfl
          have cM_1_1 := HMw8.out.cell 1 1 (w4.heap.size + 1) _ _ _ rfl rfl rfl
          go_wp2_with fail
          refine (HC.out _ (HLa.out.below HG1w8.out.2.2)).mono ?_
          rintro e w9 ⟨rfl, hb⟩
          have HG1w9 := hide (HG1w8.out.on hb)
          have HXw9 := hide (HXw8.out.on hb)
          have HYw9 := hide (HYw8.out.on hb)
          have HMw9 := hide (HMw8.out.on hb)
          have HVw9 := hide (HVw8.out.on hb)
          clear lG1_0 cG1_0_0 cG1_0_1 lG1_1 cG1_1_0 cG1_1_1 lX_0 cX_0_0 cX_0_1 lY_0 cY_0_0 cY_0_1 lM_0 cM_0_0 cM_0_1 lM_1 cM_1_0 cM_1_1
          clear hb HG1w8 HXw8 HYw8 HMw8 HVw8
          have lG1_0 := HG1w9.out.lt 0 w.heap.size (by simp) rfl
          have cG1_0_0 := HG1w9.out.cell 0 0 w.heap.size _ _ _ rfl rfl rfl
          have cG1_0_1 := HG1w9.out.cell 0 1 w.heap.size _ _ _ rfl rfl rfl
          have lG1_1 := HG1w9.out.lt 1 (w.heap.size + 1) (by simp) rfl
          have cG1_1_0 := HG1w9.out.cell 1 0 (w.heap.size + 1) _ _ _ rfl rfl rfl
          have cG1_1_1 := HG1w9.out.cell 1 1 (w.heap.size + 1) _ _ _ rfl rfl rfl
          have lX_0 := HXw9.out.lt 0 w1.heap.size (by simp) rfl
          have cX_0_0 := HXw9.out.cell 0 0 w1.heap.size _ _ _ rfl rfl rfl
          have cX_0_1 := HXw9.out.cell 0 1 w1.heap.size _ _ _ rfl rfl rfl
          have lY_0 := HYw9.out.lt 0 w2.heap.size (by simp) rfl
          have cY_0_0 := HYw9.out.cell 0 0 w2.heap.size _ _ _ rfl rfl rfl
          have cY_0_1 := HYw9.out.cell 0 1 w2.heap.size _ _ _ rfl rfl rfl
          have lM_0 := HMw9.out.lt 0 w4.heap.size (by simp) rfl
          have cM_0_0 := HMw9.out.cell 0 0 w4.heap.size _ _ _ rfl rfl rfl
          have cM_0_1 := HMw9.out.cell 0 1 w4.heap.size _ _ _ rfl rfl rfl
          have lM_1 := HMw9.out.lt 1 (w4.heap.size + 1) (by simp) rfl
          have cM_1_0 := HMw9.out.cell 1 0 (w4.heap.size + 1) _ _ _ rfl rfl rfl
          have cM_1_1 := HMw9.out.cell 1 1 (w4.heap.size + 1) _ _ _ rfl rfl rfl
          go_wp2_with fail
          refine (HDx.out _ ox om cx cm (HX.out.below HXw9.out.2.2) (VI.out.below HVw9.out.2.2)).mono ?_
          rintro e w10 ⟨rfl, hb⟩
          have HG1w10 := hide (HG1w9.out.on hb)
          have HXw10 := hide (HXw9.out.on hb)
          have HYw10 := hide (HYw9.out.on hb)
          have HMw10 := hide (HMw9.out.on hb)
          have HVw10 := hide (HVw9.out.on hb)
          clear lG1_0 cG1_0_0 cG1_0_1 lG1_1 cG1_1_0 cG1_1_1 lX_0 cX_0_0 cX_0_1 lY_0 cY_0_0 cY_0_1 lM_0 cM_0_0 cM_0_1 lM_1 cM_1_0 cM_1_1
          clear hb HG1w9 HXw9 HYw9 HMw9 HVw9
          have lG1_0 := HG1w10.out.lt 0 w.heap.size (by simp) rfl
          have cG1_0_0 := HG1w10.out.cell 0 0 w.heap.size _ _ _ rfl rfl rfl
          have cG1_0_1 := HG1w10.out.cell 0 1 w.heap.size _ _ _ rfl rfl rfl
          have lG1_1 := HG1w10.out.lt 1 (w.heap.size + 1) (by simp) rfl
          have cG1_1_0 := HG1w10.out.cell 1 0 (w.heap.size + 1) _ _ _ rfl rfl rfl
          have cG1_1_1 := HG1w10.out.cell 1 1 (w.heap.size + 1) _ _ _ rfl rfl rfl
          have lX_0 := HXw10.out.lt 0 w1.heap.size (by simp) rfl
          have cX_0_0 := HXw10.out.cell 0 0 w1.heap.size _ _ _ rfl rfl rfl
          have cX_0_1 := HXw10.out.cell 0 1 w1.heap.size _ _ _ rfl rfl rfl
          have lY_0 := HYw10.out.lt 0 w2.heap.size (by simp) rfl
          have cY_0_0 := HYw10.out.cell 0 0 w2.heap.size _ _ _ rfl rfl rfl
          have cY_0_1 := HYw10.out.cell 0 1 w2.heap.size _ _ _ rfl rfl rfl
          have lM_0 := HMw10.out.lt 0 w4.heap.size (by simp) rfl
          have cM_0_0 := HMw10.out.cell 0 0 w4.heap.size _ _ _ rfl rfl rfl
          have cM_0_1 := HMw10.out.cell 0 1 w4.heap.size _ _ _ rfl rfl rfl
          have lM_1 := HMw10.out.lt 1 (w4.heap.size + 1) (by simp) rfl
          have cM_1_0 := HMw10.out.cell 1 0 (w4.heap.size + 1) _ _ _ rfl rfl rfl
          have cM_1_1 := HMw10.out.cell 1 1 (w4.heap.size + 1) _ _ _ rfl rfl rfl
          go_wp2_with fail
          refine (deniedIs_err _ on none cn 0 0 0 _ hub).mono ?_
          rintro e w11 ⟨rfl, hb⟩
          have HG1w11 := hide (HG1w10.out.on hb)
          have HXw11 := hide (HXw10.out.on hb)
          have HYw11 := hide (HYw10.out.on hb)
          have HMw11 := hide (HMw10.out.on hb)
          have HVw11 := hide (HVw10.out.on hb)
          clear lG1_0 cG1_0_0 cG1_0_1 lG1_1 cG1_1_0 cG1_1_1 lX_0 cX_0_0 cX_0_1 lY_0 cY_0_0 cY_0_1 lM_0 cM_0_0 cM_0_1 lM_1 cM_1_0 cM_1_1
          clear hb HG1w10 HXw10 HYw10 HMw10 HVw10
          have lG1_0 := HG1w11.out.lt 0 w.heap.size (by simp) rfl
          have cG1_0_0 := HG1w11.out.cell 0 0 w.heap.size _ _ _ rfl rfl rfl
          have cG1_0_1 := HG1w11.out.cell 0 1 w.heap.size _ _ _ rfl rfl rfl
          have lG1_1 := HG1w11.out.lt 1 (w.heap.size + 1) (by simp) rfl
          have cG1_1_0 := HG1w11.out.cell 1 0 (w.heap.size + 1) _ _ _ rfl rfl rfl
          have cG1_1_1 := HG1w11.out.cell 1 1 (w.heap.size + 1) _ _ _ rfl rfl rfl
          have lX_0 := HXw11.out.lt 0 w1.heap.size (by simp) rfl
          have cX_0_0 := HXw11.out.cell 0 0 w1.heap.size _ _ _ rfl rfl rfl
          have cX_0_1 := HXw11.out.cell 0 1 w1.heap.size _ _ _ rfl rfl rfl
          have lY_0 := HYw11.out.lt 0 w2.heap.size (by simp) rfl
          have cY_0_0 := HYw11.out.cell 0 0 w2.heap.size _ _ _ rfl rfl rfl
          have cY_0_1 := HYw11.out.cell 0 1 w2.heap.size _ _ _ rfl rfl rfl
          have lM_0 := HMw11.out.lt 0 w4.heap.size (by simp) rfl
          have cM_0_0 := HMw11.out.cell 0 0 w4.heap.size _ _ _ rfl rfl rfl
          have cM_0_1 := HMw11.out.cell 0 1 w4.heap.size _ _ _ rfl rfl rfl
          have lM_1 := HMw11.out.lt 1 (w4.heap.size + 1) (by simp) rfl
          have cM_1_0 := HMw11.out.cell 1 0 (w4.heap.size + 1) _ _ _ rfl rfl rfl
          have cM_1_1 := HMw11.out.cell 1 1 (w4.heap.size + 1) _ _ _ rfl rfl rfl
          go_wp2_with fail
          refine (HI.out _ (HLa.out.below HG1w11.out.2.2)).mono ?_
          rintro e w12 ⟨rfl, rfl⟩
          go_wp2_with fail
          go_ret
          exact ⟨by first | rfl | simp, HG1w11.out.2.2⟩
      · have hne := hE
        rw [if_neg hE, if_neg hE] at HA
        generalize addE va La id = E at *
        clear hE HE0
        by_cases hub : chkD vb Lb = 0
        · have hNl := HNl.out hub
          rw [hub, if_pos rfl, if_pos rfl] at HN
          rw [hub] at HCb
          by_cases hlt : va < vb
          · rw [if_pos hlt, if_pos hlt] at HN
            rw [if_pos hlt] at HW hNl
            have HDy := hide (fun W o o' c c' (h : IntsAt W o Lb) (h' : IntsAt W o' Lb) => deniedIs_ok vb Lb o o' c c' W h h' hNl)
            clear hlt hub hNl HNl HM
            go_enter Try.func5, Try.ntmps5
            go_wp2_with fail
            have HG1 := hide (((Blks.nil w).more (.cells #[.int .i64 va, .slice oa La.length ca] 45) (by simp)).more (.cells #[.int .i64 vb, .slice ob Lb.length cb] 45) (by simp))
            refine (HA.out _ (HLa.out.below HG1.out.2.2)).mono ?_
            rintro e w1 ⟨⟨x, rfl, ⟨-, rfl, ox, cx, rfl, hx⟩⟩, hb⟩
            have HG1w1 := hide (HG1.out.on hb)
            have HX := hide hx.1
            clear hx
            clear hb HG1
            have lG1_0 := HG1w1.out.lt 0 w.heap.size (by simp) rfl
            have cG1_0_0 := HG1w1.out.cell 0 0 w.heap.size _ _ _ rfl rfl rfl
            have cG1_0_1 := HG1w1.out.cell 0 1 w.heap.size _ _ _ rfl rfl rfl
            have lG1_1 := HG1w1.out.lt 1 (w.heap.size + 1) (by simp) rfl
            have cG1_1_0 := HG1w1.out.cell 1 0 (w.heap.size + 1) _ _ _ rfl rfl rfl
            have cG1_1_1 := HG1w1.out.cell 1 1 (w.heap.size + 1) _ _ _ rfl rfl rfl
            go_wp2_with fail
            have HX := hide ((Blks.nil w1).more (.cells #[.int .i64 0, .slice ox 0 cx] 45) (by simp))
            refine (HN.out _ (HLa.out.below (HG1w1.out.on HX.out.2.2).2.2) (HLb.out.below (HG1w1.out.on HX.out.2.2).2.2)).mono ?_
            rintro e w2 ⟨⟨x, rfl, ⟨-, rfl, on, cn, rfl, hx⟩⟩, hb⟩
            have HXw2 := hide (HX.out.on hb)
            have HG1w2 := hide (HG1w1.out.on HXw2.out.2.2)
            have HY := hide hx.1
            clear hx
            clear lG1_0 cG1_0_0 cG1_0_1 lG1_1 cG1_1_0 cG1_1_1
            clear hb HG1w1 HX
            have lG1_0 := HG1w2.out.lt 0 w.heap.size (by simp) rfl
            have cG1_0_0 := HG1w2.out.cell 0 0 w.heap.size _ _ _ rfl rfl rfl
            have cG1_0_1 := HG1w2.out.cell 0 1 w.heap.size _ _ _ rfl rfl rfl
            have lG1_1 := HG1w2.out.lt 1 (w.heap.size + 1) (by simp) rfl
            have cG1_1_0 := HG1w2.out.cell 1 0 (w.heap.size + 1) _ _ _ rfl rfl rfl
            have cG1_1_1 := HG1w2.out.cell 1 1 (w.heap.size + 1) _ _ _ rfl rfl rfl
            have lX_0 := HXw2.out.lt 0 w1.heap.size (by simp) rfl
            have cX_0_0 := HXw2.out.cell 0 0 w1.heap.size _ _ _ rfl rfl rfl
            have cX_0_1 := HXw2.out.cell 0 1 w1.heap.size _ _ _ rfl rfl rfl
            go_wp2_with fail
            have HY := hide ((Blks.nil w2).more (.cells #[.int .i64 vb, .slice on Lb.length cn] 45) (by simp))
            refine (HH.out _ (HLa.out.below (HG1w2.out.on HY.out.2.2).2.2)).mono ?_
            rintro e w3 ⟨rfl, hb⟩
            have HYw3 := hide (HY.out.on hb)
            have HG1w3 := hide (HG1w2.out.on HYw3.out.2.2)
            have HXw3 := hide (HXw2.out.on HYw3.out.2.2)
            clear lG1_0 cG1_0_0 cG1_0_1 lG1_1 cG1_1_0 cG1_1_1 lX_0 cX_0_0 cX_0_1
            clear hb HG1w2 HXw2 HY
            have lG1_0 := HG1w3.out.lt 0 w.heap.size (by simp) rfl
            have cG1_0_0 := HG1w3.out.cell 0 0 w.heap.size _ _ _ rfl rfl rfl
            have cG1_0_1 := HG1w3.out.cell 0 1 w.heap.size _ _ _ rfl rfl rfl
            have lG1_1 := HG1w3.out.lt 1 (w.heap.size + 1) (by simp) rfl
            have cG1_1_0 := HG1w3.out.cell 1 0 (w.heap.size + 1) _ _ _ rfl rfl rfl
            have cG1_1_1 := HG1w3.out.cell 1 1 (w.heap.size + 1) _ _ _ rfl rfl rfl
            have lX_0 := HXw3.out.lt 0 w1.heap.size (by simp) rfl
            have cX_0_0 := HXw3.out.cell 0 0 w1.heap.size _ _ _ rfl rfl rfl
            have cX_0_1 := HXw3.out.cell 0 1 w1.heap.size _ _ _ rfl rfl rfl
            have lY_0 := HYw3.out.lt 0 w2.heap.size (by simp) rfl
            have cY_0_0 := HYw3.out.cell 0 0 w2.heap.size _ _ _ rfl rfl rfl
            have cY_0_1 := HYw3.out.cell 0 1 w2.heap.size _ _ _ rfl rfl rfl
            go_wp2_with fail
            refine (HCa.out _ (HLa.out.below HG1w3.out.2.2)).mono ?_
            rintro e w4 ⟨rfl, hb⟩
            have HG1w4 := hide (HG1w3.out.on hb)
            have HXw4 := hide (HXw3.out.on hb)
            have HYw4 := hide (HYw3.out.on hb)
            clear lG1_0 cG1_0_0 cG1_0_1 lG1_1 cG1_1_0 cG1_1_1 lX_0 cX_0_0 cX_0_1 lY_0 cY_0_0 cY_0_1
            clear hb HG1w3 HXw3 HYw3
            have lG1_0 := HG1w4.out.lt 0 w.heap.size (by simp) rfl
            have cG1_0_0 := HG1w4.out.cell 0 0 w.heap.size _ _ _ rfl rfl rfl
            have cG1_0_1 := HG1w4.out.cell 0 1 w.heap.size _ _ _ rfl rfl rfl
            have lG1_1 := HG1w4.out.lt 1 (w.heap.size + 1) (by simp) rfl
            have cG1_1_0 := HG1w4.out.cell 1 0 (w.heap.size + 1) _ _ _ rfl rfl rfl
            have cG1_1_1 := HG1w4.out.cell 1 1 (w.heap.size + 1) _ _ _ rfl rfl rfl
            have lX_0 := HXw4.out.lt 0 w1.heap.size (by simp) rfl
            have cX_0_0 := HXw4.out.cell 0 0 w1.heap.size _ _ _ rfl rfl rfl
            have cX_0_1 := HXw4.out.cell 0 1 w1.heap.size _ _ _ rfl rfl rfl
            have lY_0 := HYw4.out.lt 0 w2.heap.size (by simp) rfl
            have cY_0_0 := HYw4.out.cell 0 0 w2.heap.size _ _ _ rfl rfl rfl
            have cY_0_1 := HYw4.out.cell 0 1 w2.heap.size _ _ _ rfl rfl rfl
            go_wp2_with fail
            clear lG1_0 cG1_0_0 cG1_0_1 lG1_1 cG1_1_0 cG1_1_1 lX_0 cX_0_0 cX_0_1 lY_0 cY_0_0 cY_0_1
            have zG1 := HG1w4.out.2.1
            simp only [List.length_append, List.length_cons, List.length_nil] at zG1
            have zX := HXw4.out.2.1
            simp only [List.length_append, List.length_cons, List.length_nil] at zX
            have zY := HYw4.out.2.1
            simp only [List.length_append, List.length_cons, List.length_nil] at zY
            have HM := hide (((Blks.nil w4).more (.cells #[.int .i64 0, .slice none 0 0] 45) (by simp)).more (.cells #[.int .i64 0, .slice none 0 0] 45) (by simp))
            refine (HE1.out _ (HLa.out.below (HG1w4.out.on HM.out.2.2).2.2) hne).mono ?_
            rintro e w5 ⟨rfl, hb⟩
            have HMw5 := hide (HM.out.on hb)
            have HG1w5 := hide (HG1w4.out.on HMw5.out.2.2)
            have HXw5 := hide (HXw4.out.on HMw5.out.2.2)
            have HYw5 := hide (HYw4.out.on HMw5.out.2.2)
            clear hb HG1w4 HXw4 HYw4 HM
            have lG1_0 := HG1w5.out.lt 0 w.heap.size (by simp) rfl
            have cG1_0_0 := HG1w5.out.cell 0 0 w.heap.size _ _ _ rfl rfl rfl
            have cG1_0_1 := HG1w5.out.cell 0 1 w.heap.size _ _ _ rfl rfl rfl
            have lG1_1 := HG1w5.out.lt 1 (w.heap.size + 1) (by simp) rfl
            have cG1_1_0 := HG1w5.out.cell 1 0 (w.heap.size + 1) _ _ _ rfl rfl rfl
            have cG1_1_1 := HG1w5.out.cell 1 1 (w.heap.size + 1) _ _ _ rfl rfl rfl
            have lX_0 := HXw5.out.lt 0 w1.heap.size (by simp) rfl
            have cX_0_0 := HXw5.out.cell 0 0 w1.heap.size _ _ _ rfl rfl rfl
            have cX_0_1 := HXw5.out.cell 0 1 w1.heap.size _ _ _ rfl rfl rfl
            have lY_0 := HYw5.out.lt 0 w2.heap.size (by simp) rfl
            have cY_0_0 := HYw5.out.cell 0 0 w2.heap.size _ _ _ rfl rfl rfl
            have cY_0_1 := HYw5.out.cell 0 1 w2.heap.size _ _ _ rfl rfl rfl
            have lM_0 := HMw5.out.lt 0 w4.heap.size (by simp) rfl
            have cM_0_0 := HMw5.out.cell 0 0 w4.heap.size _ _ _ rfl rfl rfl
            have fM_0_0 := HMw5.out.frozen 0 0 w4.heap.size _ _ rfl rfl
            have cM_0_1 := HMw5.out.cell 0 1 w4.heap.size _ _ _ rfl rfl rfl
            have fM_0_1 := HMw5.out.frozen 0 1 w4.heap.size _ _ rfl rfl
            have lM_1 := HMw5.out.lt 1 (w4.heap.size + 1) (by simp) rfl
            have cM_1_0 := HMw5.out.cell 1 0 (w4.heap.size + 1) _ _ _ rfl rfl rfl
            have fM_1_0 := HMw5.out.frozen 1 0 (w4.heap.size + 1) _ _ rfl rfl
            have cM_1_1 := HMw5.out.cell 1 1 (w4.heap.size + 1) _ _ _ rfl rfl rfl
            have fM_1_1 := HMw5.out.frozen 1 1 (w4.heap.size + 1) _ _ rfl rfl
            go_wp2_with fail
            clear lG1_0 cG1_0_0 cG1_0_1 lG1_1 cG1_1_0 cG1_1_1 lX_0 cX_0_0 cX_0_1 lY_0 cY_0_0 cY_0_1 lM_0 cM_0_0 fM_0_0 cM_0_1 fM_0_1 lM_1 cM_1_0 fM_1_0 cM_1_1 fM_1_1
            have HG1w5s := hide ((HG1w5.out.set ⟨w4.heap.size, 0, none⟩ (by simp; try omega) (.int .i64 0)).set ⟨w4.heap.size, 1, none⟩ (by simp; try omega) (.slice none 0 0))
            have HXw5s := hide ((HXw5.out.set ⟨w4.heap.size, 0, none⟩ (by simp; try omega) (.int .i64 0)).set ⟨w4.heap.size, 1, none⟩ (by simp; try omega) (.slice none 0 0))
            have HYw5s := hide ((HYw5.out.set ⟨w4.heap.size, 0, none⟩ (by simp; try omega) (.int .i64 0)).set ⟨w4.heap.size, 1, none⟩ (by simp; try omega) (.slice none 0 0))
            have HMw5s : Hid (Blks w4 ((w5.setCell ⟨w4.heap.size, 0, none⟩ (.int .i64 0)).setCell ⟨w4.heap.size, 1, none⟩ (.slice none 0 0)) [.cells #[.int .i64 0, .slice none 0 0] 45, .cells #[.int .i64 0, .slice none 0 0] 45]) := hide ((HMw5.out.put 0 0 w4.heap.size _ _ (.int .i64 0) rfl rfl).put 0 1 w4.heap.size _ _ (.slice none 0 0) rfl rfl)
            clear HG1w5 HXw5 HYw5 HMw5
            generalize ((w5.setCell ⟨w4.heap.size, 0, none⟩ (.int .i64 0)).setCell ⟨w4.heap.size, 1, none⟩ (.slice none 0 0)) = w5s at *
            refine (HCb.out _ (HLb.out.below HG1w5s.out.2.2)).mono ?_
            rintro e w6 ⟨rfl, hb⟩
            have HG1w6 := hide (HG1w5s.out.on hb)
            have HXw6 := hide (HXw5s.out.on hb)
            have HYw6 := hide (HYw5s.out.on hb)
            have HMw6 := hide (HMw5s.out.on hb)
            clear hb HG1w5s HXw5s HYw5s HMw5s
            have lG1_0 := HG1w6.out.lt 0 w.heap.size (by simp) rfl
            have cG1_0_0 := HG1w6.out.cell 0 0 w.heap.size _ _ _ rfl rfl rfl
            have cG1_0_1 := HG1w6.out.cell 0 1 w.heap.size _ _ _ rfl rfl rfl
            have lG1_1 := HG1w6.out.lt 1 (w.heap.size + 1) (by simp) rfl
            have cG1_1_0 := HG1w6.out.cell 1 0 (w.heap.size + 1) _ _ _ rfl rfl rfl
            have cG1_1_1 := HG1w6.out.cell 1 1 (w.heap.size + 1) _ _ _ rfl rfl rfl
            have lX_0 := HXw6.out.lt 0 w1.heap.size (by simp) rfl
            have cX_0_0 := HXw6.out.cell 0 0 w1.heap.size _ _ _ rfl rfl rfl
            have cX_0_1 := HXw6.out.cell 0 1 w1.heap.size _ _ _ rfl rfl rfl
            have lY_0 := HYw6.out.lt 0 w2.heap.size (by simp) rfl
            have cY_0_0 := HYw6.out.cell 0 0 w2.heap.size _ _ _ rfl rfl rfl
            have cY_0_1 := HYw6.out.cell 0 1 w2.heap.size _ _ _ rfl rfl rfl
            have lM_0 := HMw6.out.lt 0 w4.heap.size (by simp) rfl
            have cM_0_0 := HMw6.out.cell 0 0 w4.heap.size _ _ _ rfl rfl rfl
            have cM_0_1 := HMw6.out.cell 0 1 w4.heap.size _ _ _ rfl rfl rfl
            have lM_1 := HMw6.out.lt 1 (w4.heap.size + 1) (by simp) rfl
            have cM_1_0 := HMw6.out.cell 1 0 (w4.heap.size + 1) _ _ _ rfl rfl rfl
            have fM_1_0 := HMw6.out.frozen 1 0 (w4.heap.size + 1) _ _ rfl rfl
            have cM_1_1 := HMw6.out.cell 1 1 (w4.heap.size + 1) _ _ _ rfl rfl rfl
            have fM_1_1 := HMw6.out.frozen 1 1 (w4.heap.size + 1) _ _ rfl rfl
            go_wp2_with fail
            refine (HW.out _).mono ?_
            rintro e w7 ⟨rfl, hb⟩
            have HG1w7 := hide (HG1w6.out.on hb)
            have HXw7 := hide (HXw6.out.on hb)
            have HYw7 := hide (HYw6.out.on hb)
            have HMw7 := hide (HMw6.out.on hb)
            clear lG1_0 cG1_0_0 cG1_0_1 lG1_1 cG1_1_0 cG1_1_1 lX_0 cX_0_0 cX_0_1 lY_0 cY_0_0 cY_0_1 lM_0 cM_0_0 cM_0_1 lM_1 cM_1_0 fM_1_0 cM_1_1 fM_1_1
            clear hb HG1w6 HXw6 HYw6 HMw6
            have lG1_0 := HG1w7.out.lt 0 w.heap.size (by simp) rfl
            have cG1_0_0 := HG1w7.out.cell 0 0 w.heap.size _ _ _ rfl rfl rfl
            have cG1_0_1 := HG1w7.out.cell 0 1 w.heap.size _ _ _ rfl rfl rfl
            have lG1_1 := HG1w7.out.lt 1 (w.heap.size + 1) (by simp) rfl
            have cG1_1_0 := HG1w7.out.cell 1 0 (w.heap.size + 1) _ _ _ rfl rfl rfl
            have cG1_1_1 := HG1w7.out.cell 1 1 (w.heap.size + 1) _ _ _ rfl rfl rfl
            have lX_0 := HXw7.out.lt 0 w1.heap.size (by simp) rfl
            have cX_0_0 := HXw7.out.cell 0 0 w1.heap.size _ _ _ rfl rfl rfl
            have cX_0_1 := HXw7.out.cell 0 1 w1.heap.size _ _ _ rfl rfl rfl
            have lY_0 := HYw7.out.lt 0 w2.heap.size (by simp) rfl
            have cY_0_0 := HYw7.out.cell 0 0 w2.heap.size _ _ _ rfl rfl rfl
            have cY_0_1 := HYw7.out.cell 0 1 w2.heap.size _ _ _ rfl rfl rfl
            have lM_0 := HMw7.out.lt 0 w4.heap.size (by simp) rfl
            have cM_0_0 := HMw7.out.cell 0 0 w4.heap.size _ _ _ rfl rfl rfl
            have cM_0_1 := HMw7.out.cell 0 1 w4.heap.size _ _ _ rfl rfl rfl
            have lM_1 := HMw7.out.lt 1 (w4.heap.size + 1) (by simp) rfl
            have cM_1_0 := HMw7.out.cell 1 0 (w4.heap.size + 1) _ _ _ rfl rfl rfl
            have fM_1_0 := HMw7.out.frozen 1 0 (w4.heap.size + 1) _ _ rfl rfl
            have cM_1_1 := HMw7.out.cell 1 1 (w4.heap.size + 1) _ _ _ rfl rfl rfl
            have fM_1_1 := HMw7.out.frozen 1 1 (w4.heap.size + 1) _ _ rfl rfl
            go_wp2_with fail
            clear lG1_0 cG1_0_0 cG1_0_1 lG1_1 cG1_1_0 cG1_1_1 lX_0 cX_0_0 cX_0_1 lY_0 cY_0_0 cY_0_1 lM_0 cM_0_0 cM_0_1 lM_1 cM_1_0 fM_1_0 cM_1_1 fM_1_1
            have HG1w7s := hide ((HG1w7.out.set ⟨w4.heap.size + 1, 0, none⟩ (by simp; try omega) (.int .i64 vb)).set ⟨w4.heap.size + 1, 1, none⟩ (by simp; try omega) (.slice ob Lb.length cb))
            have HXw7s := hide ((HXw7.out.set ⟨w4.heap.size + 1, 0, none⟩ (by simp; try omega) (.int .i64 vb)).set ⟨w4.heap.size + 1, 1, none⟩ (by simp; try omega) (.slice ob Lb.length cb))
            have HYw7s := hide ((HYw7.out.set ⟨w4.heap.size + 1, 0, none⟩ (by simp; try omega) (.int .i64 vb)).set ⟨w4.heap.size + 1, 1, none⟩ (by simp; try omega) (.slice ob Lb.length cb))
            have HMw7s : Hid (Blks w4 ((w7.setCell ⟨w4.heap.size + 1, 0, none⟩ (.int .i64 vb)).setCell ⟨w4.heap.size + 1, 1, none⟩ (.slice ob Lb.length cb)) [.cells #[.int .i64 0, .slice none 0 0] 45, .cells #[.int .i64 vb, .slice ob Lb.length cb] 45]) := hide ((HMw7.out.put 1 0 (w4.heap.size + 1) _ _ (.int .i64 vb) rfl rfl).put 1 1 (w4.heap.size + 1) _ _ (.slice ob Lb.length cb) rfl rfl)
            clear HG1w7 HXw7 HYw7 HMw7
            generalize ((w7.setCell ⟨w4.heap.size + 1, 0, none⟩ (.int .i64 vb)).setCell ⟨w4.heap.size + 1, 1, none⟩ (.slice ob Lb.length cb)) = w7s at *
            refine (deniedBegun_any _).mono ?_
            rintro e w8 ⟨rfl, hb⟩
            have HG1w8 := hide (HG1w7s.out.on hb)
            have HXw8 := hide (HXw7s.out.on hb)
            have HYw8 := hide (HYw7s.out.on hb)
            have HMw8 := hide (HMw7s.out.on hb)
            clear hb HG1w7s HXw7s HYw7s HMw7s
            have lG1_0 := HG1w8.out.lt 0 w.heap.size (by simp) rfl
            have cG1_0_0 := HG1w8.out.cell 0 0 w.heap.size _ _ _ rfl rfl rfl
            have cG1_0_1 := HG1w8.out.cell 0 1 w.heap.size _ _ _ rfl rfl rfl
            have lG1_1 := HG1w8.out.lt 1 (w.heap.size + 1) (by simp) rfl
            have cG1_1_0 := HG1w8.out.cell 1 0 (w.heap.size + 1) _ _ _ rfl rfl rfl
            have cG1_1_1 := HG1w8.out.cell 1 1 (w.heap.size + 1) _ _ _ rfl rfl rfl
            have lX_0 := HXw8.out.lt 0 w1.heap.size (by simp) rfl
            have cX_0_0 := HXw8.out.cell 0 0 w1.heap.size _ _ _ rfl rfl rfl
            have cX_0_1 := HXw8.out.cell 0 1 w1.heap.size _ _ _ rfl rfl rfl
            have lY_0 := HYw8.out.lt 0 w2.heap.size (by simp) rfl
            have cY_0_0 := HYw8.out.cell 0 0 w2.heap.size _ _ _ rfl rfl rfl
            have cY_0_1 := HYw8.out.cell 0 1 w2.heap.size _ _ _ rfl rfl rfl
            have lM_0 := HMw8.out.lt 0 w4.heap.size (by simp) rfl
            have cM_0_0 := HMw8.out.cell 0 0 w4.heap.size _ _ _ rfl rfl rfl
            have cM_0_1 := HMw8.out.cell 0 1 w4.heap.size _ _ _ rfl rfl rfl
            have lM_1 := HMw8.out.lt 1 (w4.heap.size + 1) (by simp) rfl
            have cM_1_0 := HMw8.out.cell 1 0 (w4.heap.size + 1) _ _ _ rfl rfl rfl
            have cM_1_1 := HMw8.out.cell 1 1 (w4.heap.size + 1) _ _ _ rfl rfl rfl
            go_wp2_with fail
            refine (HC.out _ (HLa.out.below HG1w8.out.2.2)).mono ?_
            rintro e w9 ⟨rfl, hb⟩
            have HG1w9 := hide (HG1w8.out.on hb)
            have HXw9 := hide (HXw8.out.on hb)
            have HYw9 := hide (HYw8.out.on hb)
            have HMw9 := hide (HMw8.out.on hb)
            clear lG1_0 cG1_0_0 cG1_0_1 lG1_1 cG1_1_0 cG1_1_1 lX_0 cX_0_0 cX_0_1 lY_0 cY_0_0 cY_0_1 lM_0 cM_0_0 cM_0_1 lM_1 cM_1_0 cM_1_1
            clear hb HG1w8 HXw8 HYw8 HMw8
            have lG1_0 := HG1w9.out.lt 0 w.heap.size (by simp) rfl
            have cG1_0_0 := HG1w9.out.cell 0 0 w.heap.size _ _ _ rfl rfl rfl
            have cG1_0_1 := HG1w9.out.cell 0 1 w.heap.size _ _ _ rfl rfl rfl
            have lG1_1 := HG1w9.out.lt 1 (w.heap.size + 1) (by simp) rfl
            have cG1_1_0 := HG1w9.out.cell 1 0 (w.heap.size + 1) _ _ _ rfl rfl rfl
            have cG1_1_1 := HG1w9.out.cell 1 1 (w.heap.size + 1) _ _ _ rfl rfl rfl
            have lX_0 := HXw9.out.lt 0 w1.heap.size (by simp) rfl
            have cX_0_0 := HXw9.out.cell 0 0 w1.heap.size _ _ _ rfl rfl rfl
            have cX_0_1 := HXw9.out.cell 0 1 w1.heap.size _ _ _ rfl rfl rfl
            have lY_0 := HYw9.out.lt 0 w2.heap.size (by simp) rfl
            have cY_0_0 := HYw9.out.cell 0 0 w2.heap.size _ _ _ rfl rfl rfl
            have cY_0_1 := HYw9.out.cell 0 1 w2.heap.size _ _ _ rfl rfl rfl
            have lM_0 := HMw9.out.lt 0 w4.heap.size (by simp) rfl
            have cM_0_0 := HMw9.out.cell 0 0 w4.heap.size _ _ _ rfl rfl rfl
            have cM_0_1 := HMw9.out.cell 0 1 w4.heap.size _ _ _ rfl rfl rfl
            have lM_1 := HMw9.out.lt 1 (w4.heap.size + 1) (by simp) rfl
            have cM_1_0 := HMw9.out.cell 1 0 (w4.heap.size + 1) _ _ _ rfl rfl rfl
            have cM_1_1 := HMw9.out.cell 1 1 (w4.heap.size + 1) _ _ _ rfl rfl rfl
            go_wp2_with fail
            refine (deniedIs_err _ ox none cx 0 0 0 _ hne).mono ?_
            rintro e w10 ⟨rfl, hb⟩
            have HG1w10 := hide (HG1w9.out.on hb)
            have HXw10 := hide (HXw9.out.on hb)
            have HYw10 := hide (HYw9.out.on hb)
            have HMw10 := hide (HMw9.out.on hb)
            clear lG1_0 cG1_0_0 cG1_0_1 lG1_1 cG1_1_0 cG1_1_1 lX_0 cX_0_0 cX_0_1 lY_0 cY_0_0 cY_0_1 lM_0 cM_0_0 cM_0_1 lM_1 cM_1_0 cM_1_1
            clear hb HG1w9 HXw9 HYw9 HMw9
            have lG1_0 := HG1w10.out.lt 0 w.heap.size (by simp) rfl
            have cG1_0_0 := HG1w10.out.cell 0 0 w.heap.size _ _ _ rfl rfl rfl
            have cG1_0_1 := HG1w10.out.cell 0 1 w.heap.size _ _ _ rfl rfl rfl
            have lG1_1 := HG1w10.out.lt 1 (w.heap.size + 1) (by simp) rfl
            have cG1_1_0 := HG1w10.out.cell 1 0 (w.heap.size + 1) _ _ _ rfl rfl rfl
            have cG1_1_1 := HG1w10.out.cell 1 1 (w.heap.size + 1) _ _ _ rfl rfl rfl
            have lX_0 := HXw10.out.lt 0 w1.heap.size (by simp) rfl
            have cX_0_0 := HXw10.out.cell 0 0 w1.heap.size _ _ _ rfl rfl rfl
            have cX_0_1 := HXw10.out.cell 0 1 w1.heap.size _ _ _ rfl rfl rfl
            have lY_0 := HYw10.out.lt 0 w2.heap.size (by simp) rfl
            have cY_0_0 := HYw10.out.cell 0 0 w2.heap.size _ _ _ rfl rfl rfl
            have cY_0_1 := HYw10.out.cell 0 1 w2.heap.size _ _ _ rfl rfl rfl
            have lM_0 := HMw10.out.lt 0 w4.heap.size (by simp) rfl
            have cM_0_0 := HMw10.out.cell 0 0 w4.heap.size _ _ _ rfl rfl rfl
            have cM_0_1 := HMw10.out.cell 0 1 w4.heap.size _ _ _ rfl rfl rfl
            have lM_1 := HMw10.out.lt 1 (w4.heap.size + 1) (by simp) rfl
            have cM_1_0 := HMw10.out.cell 1 0 (w4.heap.size + 1) _ _ _ rfl rfl rfl
            have cM_1_1 := HMw10.out.cell 1 1 (w4.heap.size + 1) _ _ _ rfl rfl rfl
            go_wp2_with fail
            refine (HDy.out _ on ob cn cb (HY.out.below HYw10.out.2.2) (HLb.out.below HG1w10.out.2.2)).mono ?_
            rintro e w11 ⟨rfl, hb⟩
            have HG1w11 := hide (HG1w10.out.on hb)
            have HXw11 := hide (HXw10.out.on hb)
            have HYw11 := hide (HYw10.out.on hb)
            have HMw11 := hide (HMw10.out.on hb)
            clear lG1_0 cG1_0_0 cG1_0_1 lG1_1 cG1_1_0 cG1_1_1 lX_0 cX_0_0 cX_0_1 lY_0 cY_0_0 cY_0_1 lM_0 cM_0_0 cM_0_1 lM_1 cM_1_0 cM_1_1
            clear hb HG1w10 HXw10 HYw10 HMw10
            have lG1_0 := HG1w11.out.lt 0 w.heap.size (by simp) rfl
            have cG1_0_0 := HG1w11.out.cell 0 0 w.heap.size _ _ _ rfl rfl rfl
            have cG1_0_1 := HG1w11.out.cell 0 1 w.heap.size _ _ _ rfl rfl rfl
            have lG1_1 := HG1w11.out.lt 1 (w.heap.size + 1) (by simp) rfl
            have cG1_1_0 := HG1w11.out.cell 1 0 (w.heap.size + 1) _ _ _ rfl rfl rfl
            have cG1_1_1 := HG1w11.out.cell 1 1 (w.heap.size + 1) _ _ _ rfl rfl rfl
            have lX_0 := HXw11.out.lt 0 w1.heap.size (by simp) rfl
            have cX_0_0 := HXw11.out.cell 0 0 w1.heap.size _ _ _ rfl rfl rfl
            have cX_0_1 := HXw11.out.cell 0 1 w1.heap.size _ _ _ rfl rfl rfl
            have lY_0 := HYw11.out.lt 0 w2.heap.size (by simp) rfl
            have cY_0_0 := HYw11.out.cell 0 0 w2.heap.size _ _ _ rfl rfl rfl
            have cY_0_1 := HYw11.out.cell 0 1 w2.heap.size _ _ _ rfl rfl rfl
            have lM_0 := HMw11.out.lt 0 w4.heap.size (by simp) rfl
            have cM_0_0 := HMw11.out.cell 0 0 w4.heap.size _ _ _ rfl rfl rfl
            have cM_0_1 := HMw11.out.cell 0 1 w4.heap.size _ _ _ rfl rfl rfl
            have lM_1 := HMw11.out.lt 1 (w4.heap.size + 1) (by simp) rfl
            have cM_1_0 := HMw11.out.cell 1 0 (w4.heap.size + 1) _ _ _ rfl rfl rfl
            have cM_1_1 := HMw11.out.cell 1 1 (w4.heap.size + 1) _ _ _ rfl rfl rfl
            go_wp2_with fail
            refine (HI.out _ (HLa.out.below HG1w11.out.2.2)).mono ?_
            rintro e w12 ⟨rfl, rfl⟩
            go_wp2_with fail
            go_ret
            exact ⟨by first | rfl | simp, HG1w11.out.2.2⟩
          · rw [if_neg hlt, if_neg hlt] at HN
            rw [if_neg hlt] at HW hNl
            have HDy := hide (fun W o o' c c' (h : IntsAt W o La) (h' : IntsAt W o' La) => deniedIs_ok va La o o' c c' W h h' hNl)
            clear hlt hub hNl HNl HM
            go_enter Try.func5, Try.ntmps5
            go_wp2_with fail
            have HG1 := hide (((Blks.nil w).more (.cells #[.int .i64 va, .slice oa La.length ca] 45) (by simp)).more (.cells #[.int .i64 vb, .slice ob Lb.length cb] 45) (by simp))
            refine (HA.out _ (HLa.out.below HG1.out.2.2)).mono ?_
            rintro e w1 ⟨⟨x, rfl, ⟨-, rfl, ox, cx, rfl, hx⟩⟩, hb⟩
            have HG1w1 := hide (HG1.out.on hb)
            have HX := hide hx.1
            clear hx
            clear hb HG1
            have lG1_0 := HG1w1.out.lt 0 w.heap.size (by simp) rfl
            have cG1_0_0 := HG1w1.out.cell 0 0 w.heap.size _ _ _ rfl rfl rfl
            have cG1_0_1 := HG1w1.out.cell 0 1 w.heap.size _ _ _ rfl rfl rfl
            have lG1_1 := HG1w1.out.lt 1 (w.heap.size + 1) (by simp) rfl
            have cG1_1_0 := HG1w1.out.cell 1 0 (w.heap.size + 1) _ _ _ rfl rfl rfl
            have cG1_1_1 := HG1w1.out.cell 1 1 (w.heap.size + 1) _ _ _ rfl rfl rfl
            go_wp2_with fail
            have HX := hide ((Blks.nil w1).more (.cells #[.int .i64 0, .slice ox 0 cx] 45) (by simp))
            refine (HN.out _ (HLa.out.below (HG1w1.out.on HX.out.2.2).2.2) (HLb.out.below (HG1w1.out.on HX.out.2.2).2.2)).mono ?_
            rintro e w2 ⟨⟨x, rfl, ⟨-, rfl, on, cn, rfl, hx⟩⟩, hb⟩
            have HXw2 := hide (HX.out.on hb)
            have HG1w2 := hide (HG1w1.out.on HXw2.out.2.2)
            have HY := hide hx.1
            clear hx
            clear lG1_0 cG1_0_0 cG1_0_1 lG1_1 cG1_1_0 cG1_1_1
            clear hb HG1w1 HX
            have lG1_0 := HG1w2.out.lt 0 w.heap.size (by simp) rfl
            have cG1_0_0 := HG1w2.out.cell 0 0 w.heap.size _ _ _ rfl rfl rfl
            have cG1_0_1 := HG1w2.out.cell 0 1 w.heap.size _ _ _ rfl rfl rfl
            have lG1_1 := HG1w2.out.lt 1 (w.heap.size + 1) (by simp) rfl
            have cG1_1_0 := HG1w2.out.cell 1 0 (w.heap.size + 1) _ _ _ rfl rfl rfl
            have cG1_1_1 := HG1w2.out.cell 1 1 (w.heap.size + 1) _ _ _ rfl rfl rfl
            have lX_0 := HXw2.out.lt 0 w1.heap.size (by simp) rfl
            have cX_0_0 := HXw2.out.cell 0 0 w1.heap.size _ _ _ rfl rfl rfl
            have cX_0_1 := HXw2.out.cell 0 1 w1.heap.size _ _ _ rfl rfl rfl
            go_wp2_with fail
            have HY := hide ((Blks.nil w2).more (.cells #[.int .i64 va, .slice on La.length cn] 45) (by simp))
            refine (HH.out _ (HLa.out.below (HG1w2.out.on HY.out.2.2).2.2)).mono ?_
            rintro e w3 ⟨rfl, hb⟩
            have HYw3 := hide (HY.out.on hb)
            have HG1w3 := hide (HG1w2.out.on HYw3.out.2.2)
            have HXw3 := hide (HXw2.out.on HYw3.out.2.2)
            clear lG1_0 cG1_0_0 cG1_0_1 lG1_1 cG1_1_0 cG1_1_1 lX_0 cX_0_0 cX_0_1
            clear hb HG1w2 HXw2 HY
            have lG1_0 := HG1w3.out.lt 0 w.heap.size (by simp) rfl
            have cG1_0_0 := HG1w3.out.cell 0 0 w.heap.size _ _ _ rfl rfl rfl
            have cG1_0_1 := HG1w3.out.cell 0 1 w.heap.size _ _ _ rfl rfl rfl
            have lG1_1 := HG1w3.out.lt 1 (w.heap.size + 1) (by simp) rfl
            have cG1_1_0 := HG1w3.out.cell 1 0 (w.heap.size + 1) _ _ _ rfl rfl rfl
            have cG1_1_1 := HG1w3.out.cell 1 1 (w.heap.size + 1) _ _ _ rfl rfl rfl
            have lX_0 := HXw3.out.lt 0 w1.heap.size (by simp) rfl
            have cX_0_0 := HXw3.out.cell 0 0 w1.heap.size _ _ _ rfl rfl rfl
            have cX_0_1 := HXw3.out.cell 0 1 w1.heap.size _ _ _ rfl rfl rfl
            have lY_0 := HYw3.out.lt 0 w2.heap.size (by simp) rfl
            have cY_0_0 := HYw3.out.cell 0 0 w2.heap.size _ _ _ rfl rfl rfl
            have cY_0_1 := HYw3.out.cell 0 1 w2.heap.size _ _ _ rfl rfl rfl
            go_wp2_with fail
            refine (HCa.out _ (HLa.out.below HG1w3.out.2.2)).mono ?_
            rintro e w4 ⟨rfl, hb⟩
            have HG1w4 := hide (HG1w3.out.on hb)
            have HXw4 := hide (HXw3.out.on hb)
            have HYw4 := hide (HYw3.out.on hb)
            clear lG1_0 cG1_0_0 cG1_0_1 lG1_1 cG1_1_0 cG1_1_1 lX_0 cX_0_0 cX_0_1 lY_0 cY_0_0 cY_0_1
            clear hb HG1w3 HXw3 HYw3
            have lG1_0 := HG1w4.out.lt 0 w.heap.size (by simp) rfl
            have cG1_0_0 := HG1w4.out.cell 0 0 w.heap.size _ _ _ rfl rfl rfl
            have cG1_0_1 := HG1w4.out.cell 0 1 w.heap.size _ _ _ rfl rfl rfl
            have lG1_1 := HG1w4.out.lt 1 (w.heap.size + 1) (by simp) rfl
            have cG1_1_0 := HG1w4.out.cell 1 0 (w.heap.size + 1) _ _ _ rfl rfl rfl
            have cG1_1_1 := HG1w4.out.cell 1 1 (w.heap.size + 1) _ _ _ rfl rfl rfl
            have lX_0 := HXw4.out.lt 0 w1.heap.size (by simp) rfl
            have cX_0_0 := HXw4.out.cell 0 0 w1.heap.size _ _ _ rfl rfl rfl
            have cX_0_1 := HXw4.out.cell 0 1 w1.heap.size _ _ _ rfl rfl rfl
            have lY_0 := HYw4.out.lt 0 w2.heap.size (by simp) rfl
            have cY_0_0 := HYw4.out.cell 0 0 w2.heap.size _ _ _ rfl rfl rfl
            have cY_0_1 := HYw4.out.cell 0 1 w2.heap.size _ _ _ rfl rfl rfl
            go_wp2_with fail
            clear lG1_0 cG1_0_0 cG1_0_1 lG1_1 cG1_1_0 cG1_1_1 lX_0 cX_0_0 cX_0_1 lY_0 cY_0_0 cY_0_1
            have zG1 := HG1w4.out.2.1
            simp only [List.length_append, List.length_cons, List.length_nil] at zG1
            have zX := HXw4.out.2.1
            simp only [List.length_append, List.length_cons, List.length_nil] at zX
            have zY := HYw4.out.2.1
            simp only [List.length_append, List.length_cons, List.length_nil] at zY
            have HM := hide (((Blks.nil w4).more (.cells #[.int .i64 0, .slice none 0 0] 45) (by simp)).more (.cells #[.int .i64 0, .slice none 0 0] 45) (by simp))
            refine (HE1.out _ (HLa.out.below (HG1w4.out.on HM.out.2.2).2.2) hne).mono ?_
            rintro e w5 ⟨rfl, hb⟩
            have HMw5 := hide (HM.out.on hb)
            have HG1w5 := hide (HG1w4.out.on HMw5.out.2.2)
            have HXw5 := hide (HXw4.out.on HMw5.out.2.2)
            have HYw5 := hide (HYw4.out.on HMw5.out.2.2)
            clear hb HG1w4 HXw4 HYw4 HM
            have lG1_0 := HG1w5.out.lt 0 w.heap.size (by simp) rfl
            have cG1_0_0 := HG1w5.out.cell 0 0 w.heap.size _ _ _ rfl rfl rfl
            have cG1_0_1 := HG1w5.out.cell 0 1 w.heap.size _ _ _ rfl rfl rfl
            have lG1_1 := HG1w5.out.lt 1 (w.heap.size + 1) (by simp) rfl
            have cG1_1_0 := HG1w5.out.cell 1 0 (w.heap.size + 1) _ _ _ rfl rfl rfl
            have cG1_1_1 := HG1w5.out.cell 1 1 (w.heap.size + 1) _ _ _ rfl rfl rfl
            have lX_0 := HXw5.out.lt 0 w1.heap.size (by simp) rfl
            have cX_0_0 := HXw5.out.cell 0 0 w1.heap.size _ _ _ rfl rfl rfl
            have cX_0_1 := HXw5.out.cell 0 1 w1.heap.size _ _ _ rfl rfl rfl
            have lY_0 := HYw5.out.lt 0 w2.heap.size (by simp) rfl
            have cY_0_0 := HYw5.out.cell 0 0 w2.heap.size _ _ _ rfl rfl rfl
            have cY_0_1 := HYw5.out.cell 0 1 w2.heap.size _ _ _ rfl rfl rfl
            have lM_0 := HMw5.out.lt 0 w4.heap.size (by simp) rfl
            have cM_0_0 := HMw5.out.cell 0 0 w4.heap.size _ _ _ rfl rfl rfl
            have fM_0_0 := HMw5.out.frozen 0 0 w4.heap.size _ _ rfl rfl
            have cM_0_1 := HMw5.out.cell 0 1 w4.heap.size _ _ _ rfl rfl rfl
            have fM_0_1 := HMw5.out.frozen 0 1 w4.heap.size _ _ rfl rfl
            have lM_1 := HMw5.out.lt 1 (w4.heap.size + 1) (by simp) rfl
            have cM_1_0 := HMw5.out.cell 1 0 (w4.heap.size + 1) _ _ _ rfl rfl rfl
            have fM_1_0 := HMw5.out.frozen 1 0 (w4.heap.size + 1) _ _ rfl rfl
            have cM_1_1 := HMw5.out.cell 1 1 (w4.heap.size + 1) _ _ _ rfl rfl rfl
            have fM_1_1 := HMw5.out.frozen 1 1 (w4.heap.size + 1) _ _ rfl rfl
            go_wp2_with fail
            clear lG1_0 cG1_0_0 cG1_0_1 lG1_1 cG1_1_0 cG1_1_1 lX_0 cX_0_0 cX_0_1 lY_0 cY_0_0 cY_0_1 lM_0 cM_0_0 fM_0_0 cM_0_1 fM_0_1 lM_1 cM_1_0 fM_1_0 cM_1_1 fM_1_1
            have HG1w5s := hide ((HG1w5.out.set ⟨w4.heap.size, 0, none⟩ (by simp; try omega) (.int .i64 0)).set ⟨w4.heap.size, 1, none⟩ (by simp; try omega) (.slice none 0 0))
            have HXw5s := hide ((HXw5.out.set ⟨w4.heap.size, 0, none⟩ (by simp; try omega) (.int .i64 0)).set ⟨w4.heap.size, 1, none⟩ (by simp; try omega) (.slice none 0 0))
            have HYw5s := hide ((HYw5.out.set ⟨w4.heap.size, 0, none⟩ (by simp; try omega) (.int .i64 0)).set ⟨w4.heap.size, 1, none⟩ (by simp; try omega) (.slice none 0 0))
            have HMw5s : Hid (Blks w4 ((w5.setCell ⟨w4.heap.size, 0, none⟩ (.int .i64 0)).setCell ⟨w4.heap.size, 1, none⟩ (.slice none 0 0)) [.cells #[.int .i64 0, .slice none 0 0] 45, .cells #[.int .i64 0, .slice none 0 0] 45]) := hide ((HMw5.out.put 0 0 w4.heap.size _ _ (.int .i64 0) rfl rfl).put 0 1 w4.heap.size _ _ (.slice none 0 0) rfl rfl)
            clear HG1w5 HXw5 HYw5 HMw5
            generalize ((w5.setCell ⟨w4.heap.size, 0, none⟩ (.int .i64 0)).setCell ⟨w4.heap.size, 1, none⟩ (.slice none 0 0)) = w5s at *
            refine (HCb.out _ (HLb.out.below HG1w5s.out.2.2)).mono ?_
            rintro e w6 ⟨rfl, hb⟩
            have HG1w6 := hide (HG1w5s.out.on hb)
            have HXw6 := hide (HXw5s.out.on hb)
            have HYw6 := hide (HYw5s.out.on hb)
            have HMw6 := hide (HMw5s.out.on hb)
            clear hb HG1w5s HXw5s HYw5s HMw5s
            have lG1_0 := HG1w6.out.lt 0 w.heap.size (by simp) rfl
            have cG1_0_0 := HG1w6.out.cell 0 0 w.heap.size _ _ _ rfl rfl rfl
            have cG1_0_1 := HG1w6.out.cell 0 1 w.heap.size _ _ _ rfl rfl rfl
            have lG1_1 := HG1w6.out.lt 1 (w.heap.size + 1) (by simp) rfl
            have cG1_1_0 := HG1w6.out.cell 1 0 (w.heap.size + 1) _ _ _ rfl rfl rfl
            have cG1_1_1 := HG1w6.out.cell 1 1 (w.heap.size + 1) _ _ _ rfl rfl rfl
            have lX_0 := HXw6.out.lt 0 w1.heap.size (by simp) rfl
            have cX_0_0 := HXw6.out.cell 0 0 w1.heap.size _ _ _ rfl rfl rfl
            have cX_0_1 := HXw6.out.cell 0 1 w1.heap.size _ _ _ rfl rfl rfl
            have lY_0 := HYw6.out.lt 0 w2.heap.size (by simp) rfl
            have cY_0_0 := HYw6.out.cell 0 0 w2.heap.size _ _ _ rfl rfl rfl
            have cY_0_1 := HYw6.out.cell 0 1 w2.heap.size _ _ _ rfl rfl rfl
            have lM_0 := HMw6.out.lt 0 w4.heap.size (by simp) rfl
            have cM_0_0 := HMw6.out.cell 0 0 w4.heap.size _ _ _ rfl rfl rfl
            have cM_0_1 := HMw6.out.cell 0 1 w4.heap.size _ _ _ rfl rfl rfl
            have lM_1 := HMw6.out.lt 1 (w4.heap.size + 1) (by simp) rfl
            have cM_1_0 := HMw6.out.cell 1 0 (w4.heap.size + 1) _ _ _ rfl rfl rfl
            have fM_1_0 := HMw6.out.frozen 1 0 (w4.heap.size + 1) _ _ rfl rfl
            have cM_1_1 := HMw6.out.cell 1 1 (w4.heap.size + 1) _ _ _ rfl rfl rfl
            have fM_1_1 := HMw6.out.frozen 1 1 (w4.heap.size + 1) _ _ rfl rfl
            go_wp2_with fail
            refine (HW.out _).mono ?_
            rintro e w7 ⟨rfl, hb⟩
            have HG1w7 := hide (HG1w6.out.on hb)
            have HXw7 := hide (HXw6.out.on hb)
            have HYw7 := hide (HYw6.out.on hb)
            have HMw7 := hide (HMw6.out.on hb)
            clear lG1_0 cG1_0_0 cG1_0_1 lG1_1 cG1_1_0 cG1_1_1 lX_0 cX_0_0 cX_0_1 lY_0 cY_0_0 cY_0_1 lM_0 cM_0_0 cM_0_1 lM_1 cM_1_0 fM_1_0 cM_1_1 fM_1_1
            clear hb HG1w6 HXw6 HYw6 HMw6
            have lG1_0 := HG1w7.out.lt 0 w.heap.size (by simp) rfl
            have cG1_0_0 := HG1w7.out.cell 0 0 w.heap.size _ _ _ rfl rfl rfl
            have cG1_0_1 := HG1w7.out.cell 0 1 w.heap.size _ _ _ rfl rfl rfl
            have lG1_1 := HG1w7.out.lt 1 (w.heap.size + 1) (by simp) rfl
            have cG1_1_0 := HG1w7.out.cell 1 0 (w.heap.size + 1) _ _ _ rfl rfl rfl
            have cG1_1_1 := HG1w7.out.cell 1 1 (w.heap.size + 1) _ _ _ rfl rfl rfl
            have lX_0 := HXw7.out.lt 0 w1.heap.size (by simp) rfl
            have cX_0_0 := HXw7.out.cell 0 0 w1.heap.size _ _ _ rfl rfl rfl
            have cX_0_1 := HXw7.out.cell 0 1 w1.heap.size _ _ _ rfl rfl rfl
            have lY_0 := HYw7.out.lt 0 w2.heap.size (by simp) rfl
            have cY_0_0 := HYw7.out.cell 0 0 w2.heap.size _ _ _ rfl rfl rfl
            have cY_0_1 := HYw7.out.cell 0 1 w2.heap.size _ _ _ rfl rfl rfl
            have lM_0 := HMw7.out.lt 0 w4.heap.size (by simp) rfl
            have cM_0_0 := HMw7.out.cell 0 0 w4.heap.size _ _ _ rfl rfl rfl
            have cM_0_1 := HMw7.out.cell 0 1 w4.heap.size _ _ _ rfl rfl rfl
            have lM_1 := HMw7.out.lt 1 (w4.heap.size + 1) (by simp) rfl
            have cM_1_0 := HMw7.out.cell 1 0 (w4.heap.size + 1) _ _ _ rfl rfl rfl
            have fM_1_0 := HMw7.out.frozen 1 0 (w4.heap.size + 1) _ _ rfl rfl
            have cM_1_1 := HMw7.out.cell 1 1 (w4.heap.size + 1) _ _ _ rfl rfl rfl
            have fM_1_1 := HMw7.out.frozen 1 1 (w4.heap.size + 1) _ _ rfl rfl
            go_wp2_with fail
            clear lG1_0 cG1_0_0 cG1_0_1 lG1_1 cG1_1_0 cG1_1_1 lX_0 cX_0_0 cX_0_1 lY_0 cY_0_0 cY_0_1 lM_0 cM_0_0 cM_0_1 lM_1 cM_1_0 fM_1_0 cM_1_1 fM_1_1
            have HG1w7s := hide ((HG1w7.out.set ⟨w4.heap.size + 1, 0, none⟩ (by simp; try omega) (.int .i64 va)).set ⟨w4.heap.size + 1, 1, none⟩ (by simp; try omega) (.slice oa La.length ca))
            have HXw7s := hide ((HXw7.out.set ⟨w4.heap.size + 1, 0, none⟩ (by simp; try omega) (.int .i64 va)).set ⟨w4.heap.size + 1, 1, none⟩ (by simp; try omega) (.slice oa La.length ca))
            have HYw7s := hide ((HYw7.out.set ⟨w4.heap.size + 1, 0, none⟩ (by simp; try omega) (.int .i64 va)).set ⟨w4.heap.size + 1, 1, none⟩ (by simp; try omega) (.slice oa La.length ca))
            have HMw7s : Hid (Blks w4 ((w7.setCell ⟨w4.heap.size + 1, 0, none⟩ (.int .i64 va)).setCell ⟨w4.heap.size + 1, 1, none⟩ (.slice oa La.length ca)) [.cells #[.int .i64 0, .slice none 0 0] 45, .cells #[.int .i64 va, .slice oa La.length ca] 45]) := hide ((HMw7.out.put 1 0 (w4.heap.size + 1) _ _ (.int .i64 va) rfl rfl).put 1 1 (w4.heap.size + 1) _ _ (.slice oa La.length ca) rfl rfl)
            clear HG1w7 HXw7 HYw7 HMw7
            generalize ((w7.setCell ⟨w4.heap.size + 1, 0, none⟩ (.int .i64 va)).setCell ⟨w4.heap.size + 1, 1, none⟩ (.slice oa La.length ca)) = w7s at *
            refine (deniedBegun_any _).mono ?_
            rintro e w8 ⟨rfl, hb⟩
            have HG1w8 := hide (HG1w7s.out.on hb)
            have HXw8 := hide (HXw7s.out.on hb)
            have HYw8 := hide (HYw7s.out.on hb)
            have HMw8 := hide (HMw7s.out.on hb)
            clear hb HG1w7s HXw7s HYw7s HMw7s
            have lG1_0 := HG1w8.out.lt 0 w.heap.size (by simp) rfl
            have cG1_0_0 := HG1w8.out.cell 0 0 w.heap.size _ _ _ rfl rfl rfl
            have cG1_0_1 := HG1w8.out.cell 0 1 w.heap.size _ _ _ rfl rfl rfl
            have lG1_1 := HG1w8.out.lt 1 (w.heap.size + 1) (by simp) rfl
            have cG1_1_0 := HG1w8.out.cell 1 0 (w.heap.size + 1) _ _ _ rfl rfl rfl
            have cG1_1_1 := HG1w8.out.cell 1 1 (w.heap.size + 1) _ _ _ rfl rfl rfl
            have lX_0 := HXw8.out.lt 0 w1.heap.size (by simp) rfl
            have cX_0_0 := HXw8.out.cell 0 0 w1.heap.size _ _ _ rfl rfl rfl
            have cX_0_1 := HXw8.out.cell 0 1 w1.heap.size _ _ _ rfl rfl rfl
            have lY_0 := HYw8.out.lt 0 w2.heap.size (by simp) rfl
            have cY_0_0 := HYw8.out.cell 0 0 w2.heap.size _ _ _ rfl rfl rfl
            have cY_0_1 := HYw8.out.cell 0 1 w2.heap.size _ _ _ rfl rfl rfl
            have lM_0 := HMw8.out.lt 0 w4.heap.size (by simp) rfl
            have cM_0_0 := HMw8.out.cell 0 0 w4.heap.size _ _ _ rfl rfl rfl
            have cM_0_1 := HMw8.out.cell 0 1 w4.heap.size _ _ _ rfl rfl rfl
            have lM_1 := HMw8.out.lt 1 (w4.heap.size + 1) (by simp) rfl
            have cM_1_0 := HMw8.out.cell 1 0 (w4.heap.size + 1) _ _ _ rfl rfl rfl
            have cM_1_1 := HMw8.out.cell 1 1 (w4.heap.size + 1) _ _ _ rfl rfl rfl
            go_wp2_with fail
            refine (HC.out _ (HLa.out.below HG1w8.out.2.2)).mono ?_
            rintro e w9 ⟨rfl, hb⟩
            have HG1w9 := hide (HG1w8.out.on hb)
            have HXw9 := hide (HXw8.out.on hb)
            have HYw9 := hide (HYw8.out.on hb)
            have HMw9 := hide (HMw8.out.on hb)
            clear lG1_0 cG1_0_0 cG1_0_1 lG1_1 cG1_1_0 cG1_1_1 lX_0 cX_0_0 cX_0_1 lY_0 cY_0_0 cY_0_1 lM_0 cM_0_0 cM_0_1 lM_1 cM_1_0 cM_1_1
            clear hb HG1w8 HXw8 HYw8 HMw8
            have lG1_0 := HG1w9.out.lt 0 w.heap.size (by simp) rfl
            have cG1_0_0 := HG1w9.out.cell 0 0 w.heap.size _ _ _ rfl rfl rfl
            have cG1_0_1 := HG1w9.out.cell 0 1 w.heap.size _ _ _ rfl rfl rfl
            have lG1_1 := HG1w9.out.lt 1 (w.heap.size + 1) (by simp) rfl
            have cG1_1_0 := HG1w9.out.cell 1 0 (w.heap.size + 1) _ _ _ rfl rfl rfl
            have cG1_1_1 := HG1w9.out.cell 1 1 (w.heap.size + 1) _ _ _ rfl rfl rfl
            have lX_0 := HXw9.out.lt 0 w1.heap.size (by simp) rfl
            have cX_0_0 := HXw9.out.cell 0 0 w1.heap.size _ _ _ rfl rfl rfl
            have cX_0_1 := HXw9.out.cell 0 1 w1.heap.size _ _ _ rfl rfl rfl
            have lY_0 := HYw9.out.lt 0 w2.heap.size (by simp) rfl
            have cY_0_0 := HYw9.out.cell 0 0 w2.heap.size _ _ _ rfl rfl rfl
            have cY_0_1 := HYw9.out.cell 0 1 w2.heap.size _ _ _ rfl rfl rfl
            have lM_0 := HMw9.out.lt 0 w4.heap.size (by simp) rfl
            have cM_0_0 := HMw9.out.cell 0 0 w4.heap.size _ _ _ rfl rfl rfl
            have cM_0_1 := HMw9.out.cell 0 1 w4.heap.size _ _ _ rfl rfl rfl
            have lM_1 := HMw9.out.lt 1 (w4.heap.size + 1) (by simp) rfl
            have cM_1_0 := HMw9.out.cell 1 0 (w4.heap.size + 1) _ _ _ rfl rfl rfl
            have cM_1_1 := HMw9.out.cell 1 1 (w4.heap.size + 1) _ _ _ rfl rfl rfl
            go_wp2_with fail
            refine (deniedIs_err _ ox none cx 0 0 0 _ hne).mono ?_
            rintro e w10 ⟨rfl, hb⟩
            have HG1w10 := hide (HG1w9.out.on hb)
            have HXw10 := hide (HXw9.out.on hb)
            have HYw10 := hide (HYw9.out.on hb)
            have HMw10 := hide (HMw9.out.on hb)
            clear lG1_0 cG1_0_0 cG1_0_1 lG1_1 cG1_1_0 cG1_1_1 lX_0 cX_0_0 cX_0_1 lY_0 cY_0_0 cY_0_1 lM_0 cM_0_0 cM_0_1 lM_1 cM_1_0 cM_1_1
            clear hb HG1w9 HXw9 HYw9 HMw9
            have lG1_0 := HG1w10.out.lt 0 w.heap.size (by simp) rfl
            have cG1_0_0 := HG1w10.out.cell 0 0 w.heap.size _ _ _ rfl rfl rfl
            have cG1_0_1 := HG1w10.out.cell 0 1 w.heap.size _ _ _ rfl rfl rfl
            have lG1_1 := HG1w10.out.lt 1 (w.heap.size + 1) (by simp) rfl
            have cG1_1_0 := HG1w10.out.cell 1 0 (w.heap.size + 1) _ _ _ rfl rfl rfl
            have cG1_1_1 := HG1w10.out.cell 1 1 (w.heap.size + 1) _ _ _ rfl rfl rfl
            have lX_0 := HXw10.out.lt 0 w1.heap.size (by simp) rfl
            have cX_0_0 := HXw10.out.cell 0 0 w1.heap.size _ _ _ rfl rfl rfl
            have cX_0_1 := HXw10.out.cell 0 1 w1.heap.size _ _ _ rfl rfl rfl
            have lY_0 := HYw10.out.lt 0 w2.heap.size (by simp) rfl
            have cY_0_0 := HYw10.out.cell 0 0 w2.heap.size _ _ _ rfl rfl rfl
            have cY_0_1 := HYw10.out.cell 0 1 w2.heap.size _ _ _ rfl rfl rfl
            have lM_0 := HMw10.out.lt 0 w4.heap.size (by simp) rfl
            have cM_0_0 := HMw10.out.cell 0 0 w4.heap.size _ _ _ rfl rfl rfl
            have cM_0_1 := HMw10.out.cell 0 1 w4.heap.size _ _ _ rfl rfl rfl
            have lM_1 := HMw10.out.lt 1 (w4.heap.size + 1) (by simp) rfl
            have cM_1_0 := HMw10.out.cell 1 0 (w4.heap.size + 1) _ _ _ rfl rfl rfl
            have cM_1_1 := HMw10.out.cell 1 1 (w4.heap.size + 1) _ _ _ rfl rfl rfl
            go_wp2_with fail
            refine (HDy.out _ on oa cn ca (HY.out.below HYw10.out.2.2) (HLa.out.below HG1w10.out.2.2)).mono ?_
            rintro e w11 ⟨rfl, hb⟩
            have HG1w11 := hide (HG1w10.out.on hb)
            have HXw11 := hide (HXw10.out.on hb)
            have HYw11 := hide (HYw10.out.on hb)
            have HMw11 := hide (HMw10.out.on hb)
            clear lG1_0 cG1_0_0 cG1_0_1 lG1_1 cG1_1_0 cG1_1_1 lX_0 cX_0_0 cX_0_1 lY_0 cY_0_0 cY_0_1 lM_0 cM_0_0 cM_0_1 lM_1 cM_1_0 cM_1_1
            clear hb HG1w10 HXw10 HYw10 HMw10
            have lG1_0 := HG1w11.out.lt 0 w.heap.size (by simp) rfl
            have cG1_0_0 := HG1w11.out.cell 0 0 w.heap.size _ _ _ rfl rfl rfl
            have cG1_0_1 := HG1w11.out.cell 0 1 w.heap.size _ _ _ rfl rfl rfl
            have lG1_1 := HG1w11.out.lt 1 (w.heap.size + 1) (by simp) rfl
            have cG1_1_0 := HG1w11.out.cell 1 0 (w.heap.size + 1) _ _ _ rfl rfl rfl
            have cG1_1_1 := HG1w11.out.cell 1 1 (w.heap.size + 1) _ _ _ rfl rfl rfl
            have lX_0 := HXw11.out.lt 0 w1.heap.size (by simp) rfl
            have cX_0_0 := HXw11.out.cell 0 0 w1.heap.size _ _ _ rfl rfl rfl
            have cX_0_1 := HXw11.out.cell 0 1 w1.heap.size _ _ _ rfl rfl rfl
            have lY_0 := HYw11.out.lt 0 w2.heap.size (by simp) rfl
            have cY_0_0 := HYw11.out.cell 0 0 w2.heap.size _ _ _ rfl rfl rfl
            have cY_0_1 := HYw11.out.cell 0 1 w2.heap.size _ _ _ rfl rfl rfl
            have lM_0 := HMw11.out.lt 0 w4.heap.size (by simp) rfl
            have cM_0_0 := HMw11.out.cell 0 0 w4.heap.size _ _ _ rfl rfl rfl
            have cM_0_1 := HMw11.out.cell 0 1 w4.heap.size _ _ _ rfl rfl rfl
            have lM_1 := HMw11.out.lt 1 (w4.heap.size + 1) (by simp) rfl
            have cM_1_0 := HMw11.out.cell 1 0 (w4.heap.size + 1) _ _ _ rfl rfl rfl
            have cM_1_1 := HMw11.out.cell 1 1 (w4.heap.size + 1) _ _ _ rfl rfl rfl
            go_wp2_with fail
            refine (HI.out _ (HLa.out.below HG1w11.out.2.2)).mono ?_
            rintro e w12 ⟨rfl, rfl⟩
            go_wp2_with fail
            go_ret
            exact ⟨by first | rfl | simp, HG1w11.out.2.2⟩
        · rw [if_neg hub, if_neg hub] at HN
          have hub' : (chkD vb Lb == 0) = false := by simpa using hub
          generalize chkD vb Lb = Eb at *
          clear HNl HM
          go_enter Try.func5, Try.ntmps5
          go_wp2_with fail
          have HG1 := hide (((Blks.nil w).more (.cells #[.int .i64 va, .slice oa La.length ca] 45) (by simp)).more (.cells #[.int .i64 vb, .slice ob Lb.length cb] 45) (by simp))
          refine (HA.out _ (HLa.out.below HG1.out.2.2)).mono ?_
          rintro e w1 ⟨⟨x, rfl, ⟨-, rfl, ox, cx, rfl, hx⟩⟩, hb⟩
          have HG1w1 := hide (HG1.out.on hb)
          have HX := hide hx.1
          clear hx
          clear hb HG1
          have lG1_0 := HG1w1.out.lt 0 w.heap.size (by simp) rfl
          have cG1_0_0 := HG1w1.out.cell 0 0 w.heap.size _ _ _ rfl rfl rfl
          have cG1_0_1 := HG1w1.out.cell 0 1 w.heap.size _ _ _ rfl rfl rfl
          have lG1_1 := HG1w1.out.lt 1 (w.heap.size + 1) (by simp) rfl
          have cG1_1_0 := HG1w1.out.cell 1 0 (w.heap.size + 1) _ _ _ rfl rfl rfl
          have cG1_1_1 := HG1w1.out.cell 1 1 (w.heap.size + 1) _ _ _ rfl rfl rfl
          go_wp2_with fail
          have HX := hide ((Blks.nil w1).more (.cells #[.int .i64 0, .slice ox 0 cx] 45) (by simp))
          refine (HN.out _ (HLa.out.below (HG1w1.out.on HX.out.2.2).2.2) (HLb.out.below (HG1w1.out.on HX.out.2.2).2.2)).mono ?_
          rintro e w2 ⟨⟨x, rfl, ⟨-, rfl, on, cn, rfl, hx⟩⟩, hb⟩
          have HXw2 := hide (HX.out.on hb)
          have HG1w2 := hide (HG1w1.out.on HXw2.out.2.2)
          have HY := hide hx.1
          clear hx
          clear lG1_0 cG1_0_0 cG1_0_1 lG1_1 cG1_1_0 cG1_1_1
          clear hb HG1w1 HX
          have lG1_0 := HG1w2.out.lt 0 w.heap.size (by simp) rfl
          have cG1_0_0 := HG1w2.out.cell 0 0 w.heap.size _ _ _ rfl rfl rfl
          have cG1_0_1 := HG1w2.out.cell 0 1 w.heap.size _ _ _ rfl rfl rfl
          have lG1_1 := HG1w2.out.lt 1 (w.heap.size + 1) (by simp) rfl
          have cG1_1_0 := HG1w2.out.cell 1 0 (w.heap.size + 1) _ _ _ rfl rfl rfl
          have cG1_1_1 := HG1w2.out.cell 1 1 (w.heap.size + 1) _ _ _ rfl rfl rfl
          have lX_0 := HXw2.out.lt 0 w1.heap.size (by simp) rfl
          have cX_0_0 := HXw2.out.cell 0 0 w1.heap.size _ _ _ rfl rfl rfl
          have cX_0_1 := HXw2.out.cell 0 1 w1.heap.size _ _ _ rfl rfl rfl
          go_wp2_with fail
          have HY := hide ((Blks.nil w2).more (.cells #[.int .i64 0, .slice on 0 cn] 45) (by simp))
          refine (HH.out _ (HLa.out.below (HG1w2.out.on HY.out.2.2).2.2)).mono ?_
          rintro e w3 ⟨rfl, hb⟩
          have HYw3 := hide (HY.out.on hb)
          have HG1w3 := hide (HG1w2.out.on HYw3.out.2.2)
          have HXw3 := hide (HXw2.out.on HYw3.out.2.2)
          clear lG1_0 cG1_0_0 cG1_0_1 lG1_1 cG1_1_0 cG1_1_1 lX_0 cX_0_0 cX_0_1
          clear hb HG1w2 HXw2 HY
          have lG1_0 := HG1w3.out.lt 0 w.heap.size (by simp) rfl
          have cG1_0_0 := HG1w3.out.cell 0 0 w.heap.size _ _ _ rfl rfl rfl
          have cG1_0_1 := HG1w3.out.cell 0 1 w.heap.size _ _ _ rfl rfl rfl
          have lG1_1 := HG1w3.out.lt 1 (w.heap.size + 1) (by simp) rfl
          have cG1_1_0 := HG1w3.out.cell 1 0 (w.heap.size + 1) _ _ _ rfl rfl rfl
          have cG1_1_1 := HG1w3.out.cell 1 1 (w.heap.size + 1) _ _ _ rfl rfl rfl
          have lX_0 := HXw3.out.lt 0 w1.heap.size (by simp) rfl
          have cX_0_0 := HXw3.out.cell 0 0 w1.heap.size _ _ _ rfl rfl rfl
          have cX_0_1 := HXw3.out.cell 0 1 w1.heap.size _ _ _ rfl rfl rfl
          have lY_0 := HYw3.out.lt 0 w2.heap.size (by simp) rfl
          have cY_0_0 := HYw3.out.cell 0 0 w2.heap.size _ _ _ rfl rfl rfl
          have cY_0_1 := HYw3.out.cell 0 1 w2.heap.size _ _ _ rfl rfl rfl
          go_wp2_with fail
          refine (HCa.out _ (HLa.out.below HG1w3.out.2.2)).mono ?_
          rintro e w4 ⟨rfl, hb⟩
          have HG1w4 := hide (HG1w3.out.on hb)
          have HXw4 := hide (HXw3.out.on hb)
          have HYw4 := hide (HYw3.out.on hb)
          clear lG1_0 cG1_0_0 cG1_0_1 lG1_1 cG1_1_0 cG1_1_1 lX_0 cX_0_0 cX_0_1 lY_0 cY_0_0 cY_0_1
          clear hb HG1w3 HXw3 HYw3
          have lG1_0 := HG1w4.out.lt 0 w.heap.size (by simp) rfl
          have cG1_0_0 := HG1w4.out.cell 0 0 w.heap.size _ _ _ rfl rfl rfl
          have cG1_0_1 := HG1w4.out.cell 0 1 w.heap.size _ _ _ rfl rfl rfl
          have lG1_1 := HG1w4.out.lt 1 (w.heap.size + 1) (by simp) rfl
          have cG1_1_0 := HG1w4.out.cell 1 0 (w.heap.size + 1) _ _ _ rfl rfl rfl
          have cG1_1_1 := HG1w4.out.cell 1 1 (w.heap.size + 1) _ _ _ rfl rfl rfl
          have lX_0 := HXw4.out.lt 0 w1.heap.size (by simp) rfl
          have cX_0_0 := HXw4.out.cell 0 0 w1.heap.size _ _ _ rfl rfl rfl
          have cX_0_1 := HXw4.out.cell 0 1 w1.heap.size _ _ _ rfl rfl rfl
          have lY_0 := HYw4.out.lt 0 w2.heap.size (by simp) rfl
          have cY_0_0 := HYw4.out.cell 0 0 w2.heap.size _ _ _ rfl rfl rfl
          have cY_0_1 := HYw4.out.cell 0 1 w2.heap.size _ _ _ rfl rfl rfl
          go_wp2_with fail
          clear lG1_0 cG1_0_0 cG1_0_1 lG1_1 cG1_1_0 cG1_1_1 lX_0 cX_0_0 cX_0_1 lY_0 cY_0_0 cY_0_1
          have zG1 := HG1w4.out.2.1
          simp only [List.length_append, List.length_cons, List.length_nil] at zG1
          have zX := HXw4.out.2.1
          simp only [List.length_append, List.length_cons, List.length_nil] at zX
          have zY := HYw4.out.2.1
          simp only [List.length_append, List.length_cons, List.length_nil] at zY
          have HM := hide (((Blks.nil w4).more (.cells #[.int .i64 0, .slice none 0 0] 45) (by simp)).more (.cells #[.int .i64 0, .slice none 0 0] 45) (by simp))
          refine (HE1.out _ (HLa.out.below (HG1w4.out.on HM.out.2.2).2.2) hne).mono ?_
          rintro e w5 ⟨rfl, hb⟩
          have HMw5 := hide (HM.out.on hb)
          have HG1w5 := hide (HG1w4.out.on HMw5.out.2.2)
          have HXw5 := hide (HXw4.out.on HMw5.out.2.2)
          have HYw5 := hide (HYw4.out.on HMw5.out.2.2)
          clear hb HG1w4 HXw4 HYw4 HM
          have lG1_0 := HG1w5.out.lt 0 w.heap.size (by simp) rfl
          have cG1_0_0 := HG1w5.out.cell 0 0 w.heap.size _ _ _ rfl rfl rfl
          have cG1_0_1 := HG1w5.out.cell 0 1 w.heap.size _ _ _ rfl rfl rfl
          have lG1_1 := HG1w5.out.lt 1 (w.heap.size + 1) (by simp) rfl
          have cG1_1_0 := HG1w5.out.cell 1 0 (w.heap.size + 1) _ _ _ rfl rfl rfl
          have cG1_1_1 := HG1w5.out.cell 1 1 (w.heap.size + 1) _ _ _ rfl rfl rfl
          have lX_0 := HXw5.out.lt 0 w1.heap.size (by simp) rfl
          have cX_0_0 := HXw5.out.cell 0 0 w1.heap.size _ _ _ rfl rfl rfl
          have cX_0_1 := HXw5.out.cell 0 1 w1.heap.size _ _ _ rfl rfl rfl
          have lY_0 := HYw5.out.lt 0 w2.heap.size (by simp) rfl
          have cY_0_0 := HYw5.out.cell 0 0 w2.heap.size _ _ _ rfl rfl rfl
          have cY_0_1 := HYw5.out.cell 0 1 w2.heap.size _ _ _ rfl rfl rfl
          have lM_0 := HMw5.out.lt 0 w4.heap.size (by simp) rfl
          have cM_0_0 := HMw5.out.cell 0 0 w4.heap.size _ _ _ rfl rfl rfl
          have fM_0_0 := HMw5.out.frozen 0 0 w4.heap.size _ _ rfl rfl
          have cM_0_1 := HMw5.out.cell 0 1 w4.heap.size _ _ _ rfl rfl rfl
          have fM_0_1 := HMw5.out.frozen 0 1 w4.heap.size _ _ rfl rfl
          have lM_1 := HMw5.out.lt 1 (w4.heap.size + 1) (by simp) rfl
          have cM_1_0 := HMw5.out.cell 1 0 (w4.heap.size + 1) _ _ _ rfl rfl rfl
          have fM_1_0 := HMw5.out.frozen 1 0 (w4.heap.size + 1) _ _ rfl rfl
          have cM_1_1 := HMw5.out.cell 1 1 (w4.heap.size + 1) _ _ _ rfl rfl rfl
          have fM_1_1 := HMw5.out.frozen 1 1 (w4.heap.size + 1) _ _ rfl rfl
          go_wp2_with fail
          clear lG1_0 cG1_0_0 cG1_0_1 lG1_1 cG1_1_0 cG1_1_1 lX_0 cX_0_0 cX_0_1 lY_0 cY_0_0 cY_0_1 lM_0 cM_0_0 fM_0_0 cM_0_1 fM_0_1 lM_1 cM_1_0 fM_1_0 cM_1_1 fM_1_1
          have HG1w5s := hide ((HG1w5.out.set ⟨w4.heap.size, 0, none⟩ (by simp; try omega) (.int .i64 0)).set ⟨w4.heap.size, 1, none⟩ (by simp; try omega) (.slice none 0 0))
          have HXw5s := hide ((HXw5.out.set ⟨w4.heap.size, 0, none⟩ (by simp; try omega) (.int .i64 0)).set ⟨w4.heap.size, 1, none⟩ (by simp; try omega) (.slice none 0 0))
          have HYw5s := hide ((HYw5.out.set ⟨w4.heap.size, 0, none⟩ (by simp; try omega) (.int .i64 0)).set ⟨w4.heap.size, 1, none⟩ (by simp; try omega) (.slice none 0 0))
          have HMw5s : Hid (Blks w4 ((w5.setCell ⟨w4.heap.size, 0, none⟩ (.int .i64 0)).setCell ⟨w4.heap.size, 1, none⟩ (.slice none 0 0)) [.cells #[.int .i64 0, .slice none 0 0] 45, .cells #[.int .i64 0, .slice none 0 0] 45]) := hide ((HMw5.out.put 0 0 w4.heap.size _ _ (.int .i64 0) rfl rfl).put 0 1 w4.heap.size _ _ (.slice none 0 0) rfl rfl)
          clear HG1w5 HXw5 HYw5 HMw5
          generalize ((w5.setCell ⟨w4.heap.size, 0, none⟩ (.int .i64 0)).setCell ⟨w4.heap.size, 1, none⟩ (.slice none 0 0)) = w5s at *
          refine (HCb.out _ (HLb.out.below HG1w5s.out.2.2)).mono ?_
          rintro e w6 ⟨rfl, hb⟩
          have HG1w6 := hide (HG1w5s.out.on hb)
          have HXw6 := hide (HXw5s.out.on hb)
          have HYw6 := hide (HYw5s.out.on hb)
          have HMw6 := hide (HMw5s.out.on hb)
          clear hb HG1w5s HXw5s HYw5s HMw5s
          have lG1_0 := HG1w6.out.lt 0 w.heap.size (by simp) rfl
          have cG1_0_0 := HG1w6.out.cell 0 0 w.heap.size _ _ _ rfl rfl rfl
          have cG1_0_1 := HG1w6.out.cell 0 1 w.heap.size _ _ _ rfl rfl rfl
          have lG1_1 := HG1w6.out.lt 1 (w.heap.size + 1) (by simp) rfl
          have cG1_1_0 := HG1w6.out.cell 1 0 (w.heap.size + 1) _ _ _ rfl rfl rfl
          have cG1_1_1 := HG1w6.out.cell 1 1 (w.heap.size + 1) _ _ _ rfl rfl rfl
          have lX_0 := HXw6.out.lt 0 w1.heap.size (by simp) rfl
          have cX_0_0 := HXw6.out.cell 0 0 w1.heap.size _ _ _ rfl rfl rfl
          have cX_0_1 := HXw6.out.cell 0 1 w1.heap.size _ _ _ rfl rfl rfl
          have lY_0 := HYw6.out.lt 0 w2.heap.size (by simp) rfl
          have cY_0_0 := HYw6.out.cell 0 0 w2.heap.size _ _ _ rfl rfl rfl
          have cY_0_1 := HYw6.out.cell 0 1 w2.heap.size _ _ _ rfl rfl rfl
          have lM_0 := HMw6.out.lt 0 w4.heap.size (by simp) rfl
          have cM_0_0 := HMw6.out.cell 0 0 w4.heap.size _ _ _ rfl rfl rfl
          have cM_0_1 := HMw6.out.cell 0 1 w4.heap.size _ _ _ rfl rfl rfl
          have lM_1 := HMw6.out.lt 1 (w4.heap.size + 1) (by simp) rfl
          have cM_1_0 := HMw6.out.cell 1 0 (w4.heap.size + 1) _ _ _ rfl rfl rfl
          have fM_1_0 := HMw6.out.frozen 1 0 (w4.heap.size + 1) _ _ rfl rfl
          have cM_1_1 := HMw6.out.cell 1 1 (w4.heap.size + 1) _ _ _ rfl rfl rfl
          have fM_1_1 := HMw6.out.frozen 1 1 (w4.heap.size + 1) _ _ rfl rfl
          go_wp2_with fail
          refine (deniedBegun_any _).mono ?_
          rintro e w8 ⟨rfl, hb⟩
          have HG1w8 := hide (HG1w6.out.on hb)
          have HXw8 := hide (HXw6.out.on hb)
          have HYw8 := hide (HYw6.out.on hb)
          have HMw8 := hide (HMw6.out.on hb)
          clear lG1_0 cG1_0_0 cG1_0_1 lG1_1 cG1_1_0 cG1_1_1 lX_0 cX_0_0 cX_0_1 lY_0 cY_0_0 cY_0_1 lM_0 cM_0_0 cM_0_1 lM_1 cM_1_0 fM_1_0 cM_1_1 fM_1_1
          clear hb HG1w6 HXw6 HYw6 HMw6
          have lG1_0 := HG1w8.out.lt 0 w.heap.size (by simp) rfl
          have cG1_0_0 := HG1w8.out.cell 0 0 w.heap.size _ _ _ rfl rfl rfl
          have cG1_0_1 := HG1w8.out.cell 0 1 w.heap.size _ _ _ rfl rfl rfl
          have lG1_1 := HG1w8.out.lt 1 (w.heap.size + 1) (by simp) rfl
          have cG1_1_0 := HG1w8.out.cell 1 0 (w.heap.size + 1) _ _ _ rfl rfl rfl
          have cG1_1_1 := HG1w8.out.cell 1 1 (w.heap.size + 1) _ _ _ rfl rfl rfl
          have lX_0 := HXw8.out.lt 0 w1.heap.size (by simp) rfl
          have cX_0_0 := HXw8.out.cell 0 0 w1.heap.size _ _ _ rfl rfl rfl
          have cX_0_1 := HXw8.out.cell 0 1 w1.heap.size _ _ _ rfl rfl rfl
          have lY_0 := HYw8.out.lt 0 w2.heap.size (by simp) rfl
          have cY_0_0 := HYw8.out.cell 0 0 w2.heap.size _ _ _ rfl rfl rfl
          have cY_0_1 := HYw8.out.cell 0 1 w2.heap.size _ _ _ rfl rfl rfl
          have lM_0 := HMw8.out.lt 0 w4.heap.size (by simp) rfl
          have cM_0_0 := HMw8.out.cell 0 0 w4.heap.size _ _ _ rfl rfl rfl
          have cM_0_1 := HMw8.out.cell 0 1 w4.heap.size _ _ _ rfl rfl rfl
          have lM_1 := HMw8.out.lt 1 (w4.heap.size + 1) (by simp) rfl
          have cM_1_0 := HMw8.out.cell 1 0 (w4.heap.size + 1) _ _ _ rfl rfl rfl
          have cM_1_1 := HMw8.out.cell 1 1 (w4.heap.size + 1) _ _ _ rfl rfl rfl
          go_wp2_with fail
          refine (HC.out _ (HLa.out.below HG1w8.out.2.2)).mono ?_
          rintro e w9 ⟨rfl, hb⟩
          have HG1w9 := hide (HG1w8.out.on hb)
          have HXw9 := hide (HXw8.out.on hb)
          have HYw9 := hide (HYw8.out.on hb)
          have HMw9 := hide (HMw8.out.on hb)
          clear lG1_0 cG1_0_0 cG1_0_1 lG1_1 cG1_1_0 cG1_1_1 lX_0 cX_0_0 cX_0_1 lY_0 cY_0_0 cY_0_1 lM_0 cM_0_0 cM_0_1 lM_1 cM_1_0 cM_1_1
          clear hb HG1w8 HXw8 HYw8 HMw8
          have lG1_0 := HG1w9.out.lt 0 w.heap.size (by simp) rfl
          have cG1_0_0 := HG1w9.out.cell 0 0 w.heap.size _ _ _ rfl rfl rfl
          have cG1_0_1 := HG1w9.out.cell 0 1 w.heap.size _ _ _ rfl rfl rfl
          have lG1_1 := HG1w9.out.lt 1 (w.heap.size + 1) (by simp) rfl
          have cG1_1_0 := HG1w9.out.cell 1 0 (w.heap.size + 1) _ _ _ rfl rfl rfl
          have cG1_1_1 := HG1w9.out.cell 1 1 (w.heap.size + 1) _ _ _ rfl rfl rfl
          have lX_0 := HXw9.out.lt 0 w1.heap.size (by simp) rfl
          have cX_0_0 := HXw9.out.cell 0 0 w1.heap.size _ _ _ rfl rfl rfl
          have cX_0_1 := HXw9.out.cell 0 1 w1.heap.size _ _ _ rfl rfl rfl
          have lY_0 := HYw9.out.lt 0 w2.heap.size (by simp) rfl
          have cY_0_0 := HYw9.out.cell 0 0 w2.heap.size _ _ _ rfl rfl rfl
          have cY_0_1 := HYw9.out.cell 0 1 w2.heap.size _ _ _ rfl rfl rfl
          have lM_0 := HMw9.out.lt 0 w4.heap.size (by simp) rfl
          have cM_0_0 := HMw9.out.cell 0 0 w4.heap.size _ _ _ rfl rfl rfl
          have cM_0_1 := HMw9.out.cell 0 1 w4.heap.size _ _ _ rfl rfl rfl
          have lM_1 := HMw9.out.lt 1 (w4.heap.size + 1) (by simp) rfl
          have cM_1_0 := HMw9.out.cell 1 0 (w4.heap.size + 1) _ _ _ rfl rfl rfl
          have cM_1_1 := HMw9.out.cell 1 1 (w4.heap.size + 1) _ _ _ rfl rfl rfl
          go_wp2_with fail
          refine (deniedIs_err _ ox none cx 0 0 0 _ hne).mono ?_
          rintro e w10 ⟨rfl, hb⟩
          have HG1w10 := hide (HG1w9.out.on hb)
          have HXw10 := hide (HXw9.out.on hb)
          have HYw10 := hide (HYw9.out.on hb)
          have HMw10 := hide (HMw9.out.on hb)
          clear lG1_0 cG1_0_0 cG1_0_1 lG1_1 cG1_1_0 cG1_1_1 lX_0 cX_0_0 cX_0_1 lY_0 cY_0_0 cY_0_1 lM_0 cM_0_0 cM_0_1 lM_1 cM_1_0 cM_1_1
          clear hb HG1w9 HXw9 HYw9 HMw9
          have lG1_0 := HG1w10.out.lt 0 w.heap.size (by simp) rfl
          have cG1_0_0 := HG1w10.out.cell 0 0 w.heap.size _ _ _ rfl rfl rfl
          have cG1_0_1 := HG1w10.out.cell 0 1 w.heap.size _ _ _ rfl rfl rfl
          have lG1_1 := HG1w10.out.lt 1 (w.heap.size + 1) (by simp) rfl
          have cG1_1_0 := HG1w10.out.cell 1 0 (w.heap.size + 1) _ _ _ rfl rfl rfl
          have cG1_1_1 := HG1w10.out.cell 1 1 (w.heap.size + 1) _ _ _ rfl rfl rfl
          have lX_0 := HXw10.out.lt 0 w1.heap.size (by simp) rfl
          have cX_0_0 := HXw10.out.cell 0 0 w1.heap.size _ _ _ rfl rfl rfl
          have cX_0_1 := HXw10.out.cell 0 1 w1.heap.size _ _ _ rfl rfl rfl
          have lY_0 := HYw10.out.lt 0 w2.heap.size (by simp) rfl
          have cY_0_0 := HYw10.out.cell 0 0 w2.heap.size _ _ _ rfl rfl rfl
          have cY_0_1 := HYw10.out.cell 0 1 w2.heap.size _ _ _ rfl rfl rfl
          have lM_0 := HMw10.out.lt 0 w4.heap.size (by simp) rfl
          have cM_0_0 := HMw10.out.cell 0 0 w4.heap.size _ _ _ rfl rfl rfl
          have cM_0_1 := HMw10.out.cell 0 1 w4.heap.size _ _ _ rfl rfl rfl
          have lM_1 := HMw10.out.lt 1 (w4.heap.size + 1) (by simp) rfl
          have cM_1_0 := HMw10.out.cell 1 0 (w4.heap.size + 1) _ _ _ rfl rfl rfl
          have cM_1_1 := HMw10.out.cell 1 1 (w4.heap.size + 1) _ _ _ rfl rfl rfl
          go_wp2_with fail
          refine (deniedIs_err _ on none cn 0 0 0 _ hub).mono ?_
          rintro e w11 ⟨rfl, hb⟩
          have HG1w11 := hide (HG1w10.out.on hb)
          have HXw11 := hide (HXw10.out.on hb)
          have HYw11 := hide (HYw10.out.on hb)
          have HMw11 := hide (HMw10.out.on hb)
          clear lG1_0 cG1_0_0 cG1_0_1 lG1_1 cG1_1_0 cG1_1_1 lX_0 cX_0_0 cX_0_1 lY_0 cY_0_0 cY_0_1 lM_0 cM_0_0 cM_0_1 lM_1 cM_1_0 cM_1_1
          clear hb HG1w10 HXw10 HYw10 HMw10
          have lG1_0 := HG1w11.out.lt 0 w.heap.size (by simp) rfl
          have cG1_0_0 := HG1w11.out.cell 0 0 w.heap.size _ _ _ rfl rfl rfl
          have cG1_0_1 := HG1w11.out.cell 0 1 w.heap.size _ _ _ rfl rfl rfl
          have lG1_1 := HG1w11.out.lt 1 (w.heap.size + 1) (by simp) rfl
          have cG1_1_0 := HG1w11.out.cell 1 0 (w.heap.size + 1) _ _ _ rfl rfl rfl
          have cG1_1_1 := HG1w11.out.cell 1 1 (w.heap.size + 1) _ _ _ rfl rfl rfl
          have lX_0 := HXw11.out.lt 0 w1.heap.size (by simp) rfl
          have cX_0_0 := HXw11.out.cell 0 0 w1.heap.size _ _ _ rfl rfl rfl
          have cX_0_1 := HXw11.out.cell 0 1 w1.heap.size _ _ _ rfl rfl rfl
          have lY_0 := HYw11.out.lt 0 w2.heap.size (by simp) rfl
          have cY_0_0 := HYw11.out.cell 0 0 w2.heap.size _ _ _ rfl rfl rfl
          have cY_0_1 := HYw11.out.cell 0 1 w2.heap.size _ _ _ rfl rfl rfl
          have lM_0 := HMw11.out.lt 0 w4.heap.size (by simp) rfl
          have cM_0_0 := HMw11.out.cell 0 0 w4.heap.size _ _ _ rfl rfl rfl
          have cM_0_1 := HMw11.out.cell 0 1 w4.heap.size _ _ _ rfl rfl rfl
          have lM_1 := HMw11.out.lt 1 (w4.heap.size + 1) (by simp) rfl
          have cM_1_0 := HMw11.out.cell 1 0 (w4.heap.size + 1) _ _ _ rfl rfl rfl
          have cM_1_1 := HMw11.out.cell 1 1 (w4.heap.size + 1) _ _ _ rfl rfl rfl
          go_wp2_with fail
          refine (HI.out _ (HLa.out.below HG1w11.out.2.2)).mono ?_
          rintro e w12 ⟨rfl, rfl⟩
          go_wp2_with fail
          go_ret
          exact ⟨by first | rfl | simp, HG1w11.out.2.2⟩
  · have hF : newE va La vb Lb = chkD va La := by rw [newE, if_neg hU]
    obtain ⟨hE, hG⟩ := addE_bad hU id
    rw [hE, if_neg hU, if_neg hU] at HA
    rw [hF, if_neg hU, if_neg hU] at HN
    rw [hG, decide_eq_false hU, Bool.false_and] at HH
    have HD := hide (fun W o o' c c' n' v' => deniedIs_err (chkD va La) o o' c c' n' v' W hU)
    have hU' : (chkD va La == 0) = false := by simpa using hU
    generalize chkD va La = E at *
    clear hF hE hG hU hca hna hla hlb
    go_enter Try.func5, Try.ntmps5
    go_wp2_with fail
    have HG1 := hide (((Blks.nil w).more (.cells #[.int .i64 va, .slice oa La.length ca] 45) (by simp)).more (.cells #[.int .i64 vb, .slice ob Lb.length cb] 45) (by simp))
    refine (HA.out _ (HLa.out.below HG1.out.2.2)).mono ?_
    rintro e w1 ⟨⟨x, rfl, ⟨-, rfl, ox, cx, rfl, -⟩⟩, hb⟩
    have HG1w1 := hide (HG1.out.on hb)
    clear hb HG1
    have lG1_0 := HG1w1.out.lt 0 w.heap.size (by simp) rfl
    have cG1_0_0 := HG1w1.out.cell 0 0 w.heap.size _ _ _ rfl rfl rfl
    have cG1_0_1 := HG1w1.out.cell 0 1 w.heap.size _ _ _ rfl rfl rfl
    have lG1_1 := HG1w1.out.lt 1 (w.heap.size + 1) (by simp) rfl
    have cG1_1_0 := HG1w1.out.cell 1 0 (w.heap.size + 1) _ _ _ rfl rfl rfl
    have cG1_1_1 := HG1w1.out.cell 1 1 (w.heap.size + 1) _ _ _ rfl rfl rfl
    go_wp2_with fail
    have HG2 := hide ((Blks.nil w1).more (.cells #[.int .i64 0, .slice ox 0 cx] 45) (by simp))
    refine (HN.out _ (HLa.out.below (HG1w1.out.on HG2.out.2.2).2.2) (HLb.out.below (HG1w1.out.on HG2.out.2.2).2.2)).mono ?_
    rintro e w2 ⟨⟨x, rfl, ⟨-, rfl, on, cn, rfl, -⟩⟩, hb⟩
    have HG2w2 := hide (HG2.out.on hb)
    have HG1w2 := hide (HG1w1.out.on HG2w2.out.2.2)
    clear lG1_0 cG1_0_0 cG1_0_1 lG1_1 cG1_1_0 cG1_1_1
    clear hb HG1w1 HG2
    have lG1_0 := HG1w2.out.lt 0 w.heap.size (by simp) rfl
    have cG1_0_0 := HG1w2.out.cell 0 0 w.heap.size _ _ _ rfl rfl rfl
    have cG1_0_1 := HG1w2.out.cell 0 1 w.heap.size _ _ _ rfl rfl rfl
    have lG1_1 := HG1w2.out.lt 1 (w.heap.size + 1) (by simp) rfl
    have cG1_1_0 := HG1w2.out.cell 1 0 (w.heap.size + 1) _ _ _ rfl rfl rfl
    have cG1_1_1 := HG1w2.out.cell 1 1 (w.heap.size + 1) _ _ _ rfl rfl rfl
    have lG2_0 := HG2w2.out.lt 0 w1.heap.size (by simp) rfl
    have cG2_0_0 := HG2w2.out.cell 0 0 w1.heap.size _ _ _ rfl rfl rfl
    have cG2_0_1 := HG2w2.out.cell 0 1 w1.heap.size _ _ _ rfl rfl rfl
    go_wp2_with fail
    have HG3 := hide ((Blks.nil w2).more (.cells #[.int .i64 0, .slice on 0 cn] 45) (by simp))
    refine (HH.out _ (HLa.out.below (HG1w2.out.on HG3.out.2.2).2.2)).mono ?_
    rintro e w3 ⟨rfl, hb⟩
    have HG3w3 := hide (HG3.out.on hb)
    have HG1w3 := hide (HG1w2.out.on HG3w3.out.2.2)
    have HG2w3 := hide (HG2w2.out.on HG3w3.out.2.2)
    clear lG1_0 cG1_0_0 cG1_0_1 lG1_1 cG1_1_0 cG1_1_1 lG2_0 cG2_0_0 cG2_0_1
    clear hb HG1w2 HG2w2 HG3
    have lG1_0 := HG1w3.out.lt 0 w.heap.size (by simp) rfl
    have cG1_0_0 := HG1w3.out.cell 0 0 w.heap.size _ _ _ rfl rfl rfl
    have cG1_0_1 := HG1w3.out.cell 0 1 w.heap.size _ _ _ rfl rfl rfl
    have lG1_1 := HG1w3.out.lt 1 (w.heap.size + 1) (by simp) rfl
    have cG1_1_0 := HG1w3.out.cell 1 0 (w.heap.size + 1) _ _ _ rfl rfl rfl
    have cG1_1_1 := HG1w3.out.cell 1 1 (w.heap.size + 1) _ _ _ rfl rfl rfl
    have lG2_0 := HG2w3.out.lt 0 w1.heap.size (by simp) rfl
    have cG2_0_0 := HG2w3.out.cell 0 0 w1.heap.size _ _ _ rfl rfl rfl
    have cG2_0_1 := HG2w3.out.cell 0 1 w1.heap.size _ _ _ rfl rfl rfl
    have lG3_0 := HG3w3.out.lt 0 w2.heap.size (by simp) rfl
    have cG3_0_0 := HG3w3.out.cell 0 0 w2.heap.size _ _ _ rfl rfl rfl
    have cG3_0_1 := HG3w3.out.cell 0 1 w2.heap.size _ _ _ rfl rfl rfl
    go_wp2_with fail
    refine (HCa.out _ (HLa.out.below HG1w3.out.2.2)).mono ?_
    rintro e w4 ⟨rfl, hb⟩
    have HG1w4 := hide (HG1w3.out.on hb)
    have HG2w4 := hide (HG2w3.out.on hb)
    have HG3w4 := hide (HG3w3.out.on hb)
    clear lG1_0 cG1_0_0 cG1_0_1 lG1_1 cG1_1_0 cG1_1_1 lG2_0 cG2_0_0 cG2_0_1 lG3_0 cG3_0_0 cG3_0_1
    clear hb HG1w3 HG2w3 HG3w3
    have lG1_0 := HG1w4.out.lt 0 w.heap.size (by simp) rfl
    have cG1_0_0 := HG1w4.out.cell 0 0 w.heap.size _ _ _ rfl rfl rfl
    have cG1_0_1 := HG1w4.out.cell 0 1 w.heap.size _ _ _ rfl rfl rfl
    have lG1_1 := HG1w4.out.lt 1 (w.heap.size + 1) (by simp) rfl
    have cG1_1_0 := HG1w4.out.cell 1 0 (w.heap.size + 1) _ _ _ rfl rfl rfl
    have cG1_1_1 := HG1w4.out.cell 1 1 (w.heap.size + 1) _ _ _ rfl rfl rfl
    have lG2_0 := HG2w4.out.lt 0 w1.heap.size (by simp) rfl
    have cG2_0_0 := HG2w4.out.cell 0 0 w1.heap.size _ _ _ rfl rfl rfl
    have cG2_0_1 := HG2w4.out.cell 0 1 w1.heap.size _ _ _ rfl rfl rfl
    have lG3_0 := HG3w4.out.lt 0 w2.heap.size (by simp) rfl
    have cG3_0_0 := HG3w4.out.cell 0 0 w2.heap.size _ _ _ rfl rfl rfl
    have cG3_0_1 := HG3w4.out.cell 0 1 w2.heap.size _ _ _ rfl rfl rfl
    go_wp2_with fail
    have HG4 := hide (((Blks.nil w4).more (.cells #[.int .i64 0, .slice none 0 0] 45) (by simp)).more (.cells #[.int .i64 0, .slice none 0 0] 45) (by simp))
    refine (deniedBegun_any _).mono ?_
    rintro e w5 ⟨rfl, hb⟩
    have HG4w5 := hide (HG4.out.on hb)
    have HG1w5 := hide (HG1w4.out.on HG4w5.out.2.2)
    have HG2w5 := hide (HG2w4.out.on HG4w5.out.2.2)
    have HG3w5 := hide (HG3w4.out.on HG4w5.out.2.2)
    clear lG1_0 cG1_0_0 cG1_0_1 lG1_1 cG1_1_0 cG1_1_1 lG2_0 cG2_0_0 cG2_0_1 lG3_0 cG3_0_0 cG3_0_1
    clear hb HG1w4 HG2w4 HG3w4 HG4
    have lG1_0 := HG1w5.out.lt 0 w.heap.size (by simp) rfl
    have cG1_0_0 := HG1w5.out.cell 0 0 w.heap.size _ _ _ rfl rfl rfl
    have cG1_0_1 := HG1w5.out.cell 0 1 w.heap.size _ _ _ rfl rfl rfl
    have lG1_1 := HG1w5.out.lt 1 (w.heap.size + 1) (by simp) rfl
    have cG1_1_0 := HG1w5.out.cell 1 0 (w.heap.size + 1) _ _ _ rfl rfl rfl
    have cG1_1_1 := HG1w5.out.cell 1 1 (w.heap.size + 1) _ _ _ rfl rfl rfl
    have lG2_0 := HG2w5.out.lt 0 w1.heap.size (by simp) rfl
    have cG2_0_0 := HG2w5.out.cell 0 0 w1.heap.size _ _ _ rfl rfl rfl
    have cG2_0_1 := HG2w5.out.cell 0 1 w1.heap.size _ _ _ rfl rfl rfl
    have lG3_0 := HG3w5.out.lt 0 w2.heap.size (by simp) rfl
    have cG3_0_0 := HG3w5.out.cell 0 0 w2.heap.size _ _ _ rfl rfl rfl
    have cG3_0_1 := HG3w5.out.cell 0 1 w2.heap.size _ _ _ rfl rfl rfl
    have lG4_0 := HG4w5.out.lt 0 w4.heap.size (by simp) rfl
    have cG4_0_0 := HG4w5.out.cell 0 0 w4.heap.size _ _ _ rfl rfl rfl
    have cG4_0_1 := HG4w5.out.cell 0 1 w4.heap.size _ _ _ rfl rfl rfl
    have lG4_1 := HG4w5.out.lt 1 (w4.heap.size + 1) (by simp) rfl
    have cG4_1_0 := HG4w5.out.cell 1 0 (w4.heap.size + 1) _ _ _ rfl rfl rfl
    have cG4_1_1 := HG4w5.out.cell 1 1 (w4.heap.size + 1) _ _ _ rfl rfl rfl
    go_wp2_with fail
    refine (HC.out _ (HLa.out.below HG1w5.out.2.2)).mono ?_
    rintro e w6 ⟨rfl, hb⟩
    have HG1w6 := hide (HG1w5.out.on hb)
    have HG2w6 := hide (HG2w5.out.on hb)
    have HG3w6 := hide (HG3w5.out.on hb)
    have HG4w6 := hide (HG4w5.out.on hb)
    clear lG1_0 cG1_0_0 cG1_0_1 lG1_1 cG1_1_0 cG1_1_1 lG2_0 cG2_0_0 cG2_0_1 lG3_0 cG3_0_0 cG3_0_1 lG4_0 cG4_0_0 cG4_0_1 lG4_1 cG4_1_0 cG4_1_1
    clear hb HG1w5 HG2w5 HG3w5 HG4w5
    have lG1_0 := HG1w6.out.lt 0 w.heap.size (by simp) rfl
    have cG1_0_0 := HG1w6.out.cell 0 0 w.heap.size _ _ _ rfl rfl rfl
    have cG1_0_1 := HG1w6.out.cell 0 1 w.heap.size _ _ _ rfl rfl rfl
    have lG1_1 := HG1w6.out.lt 1 (w.heap.size + 1) (by simp) rfl
    have cG1_1_0 := HG1w6.out.cell 1 0 (w.heap.size + 1) _ _ _ rfl rfl rfl
    have cG1_1_1 := HG1w6.out.cell 1 1 (w.heap.size + 1) _ _ _ rfl rfl rfl
    have lG2_0 := HG2w6.out.lt 0 w1.heap.size (by simp) rfl
    have cG2_0_0 := HG2w6.out.cell 0 0 w1.heap.size _ _ _ rfl rfl rfl
    have cG2_0_1 := HG2w6.out.cell 0 1 w1.heap.size _ _ _ rfl rfl rfl
    have lG3_0 := HG3w6.out.lt 0 w2.heap.size (by simp) rfl
    have cG3_0_0 := HG3w6.out.cell 0 0 w2.heap.size _ _ _ rfl rfl rfl
    have cG3_0_1 := HG3w6.out.cell 0 1 w2.heap.size _ _ _ rfl rfl rfl
    have lG4_0 := HG4w6.out.lt 0 w4.heap.size (by simp) rfl
    have cG4_0_0 := HG4w6.out.cell 0 0 w4.heap.size _ _ _ rfl rfl rfl
    have cG4_0_1 := HG4w6.out.cell 0 1 w4.heap.size _ _ _ rfl rfl rfl
    have lG4_1 := HG4w6.out.lt 1 (w4.heap.size + 1) (by simp) rfl
    have cG4_1_0 := HG4w6.out.cell 1 0 (w4.heap.size + 1) _ _ _ rfl rfl rfl
    have cG4_1_1 := HG4w6.out.cell 1 1 (w4.heap.size + 1) _ _ _ rfl rfl rfl
    go_wp2_with fail
    refine (HD.out _ ox none cx 0 0 0).mono ?_
    rintro e w7 ⟨rfl, hb⟩
    have HG1w7 := hide (HG1w6.out.on hb)
    have HG2w7 := hide (HG2w6.out.on hb)
    have HG3w7 := hide (HG3w6.out.on hb)
    have HG4w7 := hide (HG4w6.out.on hb)
    clear lG1_0 cG1_0_0 cG1_0_1 lG1_1 cG1_1_0 cG1_1_1 lG2_0 cG2_0_0 cG2_0_1 lG3_0 cG3_0_0 cG3_0_1 lG4_0 cG4_0_0 cG4_0_1 lG4_1 cG4_1_0 cG4_1_1
    clear hb HG1w6 HG2w6 HG3w6 HG4w6
    have lG1_0 := HG1w7.out.lt 0 w.heap.size (by simp) rfl
    have cG1_0_0 := HG1w7.out.cell 0 0 w.heap.size _ _ _ rfl rfl rfl
    have cG1_0_1 := HG1w7.out.cell 0 1 w.heap.size _ _ _ rfl rfl rfl
    have lG1_1 := HG1w7.out.lt 1 (w.heap.size + 1) (by simp) rfl
    have cG1_1_0 := HG1w7.out.cell 1 0 (w.heap.size + 1) _ _ _ rfl rfl rfl
    have cG1_1_1 := HG1w7.out.cell 1 1 (w.heap.size + 1) _ _ _ rfl rfl rfl
    have lG2_0 := HG2w7.out.lt 0 w1.heap.size (by simp) rfl
    have cG2_0_0 := HG2w7.out.cell 0 0 w1.heap.size _ _ _ rfl rfl rfl
    have cG2_0_1 := HG2w7.out.cell 0 1 w1.heap.size _ _ _ rfl rfl rfl
    have lG3_0 := HG3w7.out.lt 0 w2.heap.size (by simp) rfl
    have cG3_0_0 := HG3w7.out.cell 0 0 w2.heap.size _ _ _ rfl rfl rfl
    have cG3_0_1 := HG3w7.out.cell 0 1 w2.heap.size _ _ _ rfl rfl rfl
    have lG4_0 := HG4w7.out.lt 0 w4.heap.size (by simp) rfl
    have cG4_0_0 := HG4w7.out.cell 0 0 w4.heap.size _ _ _ rfl rfl rfl
    have cG4_0_1 := HG4w7.out.cell 0 1 w4.heap.size _ _ _ rfl rfl rfl
    have lG4_1 := HG4w7.out.lt 1 (w4.heap.size + 1) (by simp) rfl
    have cG4_1_0 := HG4w7.out.cell 1 0 (w4.heap.size + 1) _ _ _ rfl rfl rfl
    have cG4_1_1 := HG4w7.out.cell 1 1 (w4.heap.size + 1) _ _ _ rfl rfl rfl
    go_wp2_with fail
    refine (HD.out _ on none cn 0 0 0).mono ?_
    rintro e w8 ⟨rfl, hb⟩
    have HG1w8 := hide (HG1w7.out.on hb)
    have HG2w8 := hide (HG2w7.out.on hb)
    have HG3w8 := hide (HG3w7.out.on hb)
    have HG4w8 := hide (HG4w7.out.on hb)
    clear lG1_0 cG1_0_0 cG1_0_1 lG1_1 cG1_1_0 cG1_1_1 lG2_0 cG2_0_0 cG2_0_1 lG3_0 cG3_0_0 cG3_0_1 lG4_0 cG4_0_0 cG4_0_1 lG4_1 cG4_1_0 cG4_1_1
    clear hb HG1w7 HG2w7 HG3w7 HG4w7
    have lG1_0 := HG1w8.out.lt 0 w.heap.size (by simp) rfl
    have cG1_0_0 := HG1w8.out.cell 0 0 w.heap.size _ _ _ rfl rfl rfl
    have cG1_0_1 := HG1w8.out.cell 0 1 w.heap.size _ _ _ rfl rfl rfl
    have lG1_1 := HG1w8.out.lt 1 (w.heap.size + 1) (by simp) rfl
    have cG1_1_0 := HG1w8.out.cell 1 0 (w.heap.size + 1) _ _ _ rfl rfl rfl
    have cG1_1_1 := HG1w8.out.cell 1 1 (w.heap.size + 1) _ _ _ rfl rfl rfl
    have lG2_0 := HG2w8.out.lt 0 w1.heap.size (by simp) rfl
    have cG2_0_0 := HG2w8.out.cell 0 0 w1.heap.size _ _ _ rfl rfl rfl
    have cG2_0_1 := HG2w8.out.cell 0 1 w1.heap.size _ _ _ rfl rfl rfl
    have lG3_0 := HG3w8.out.lt 0 w2.heap.size (by simp) rfl
    have cG3_0_0 := HG3w8.out.cell 0 0 w2.heap.size _ _ _ rfl rfl rfl
    have cG3_0_1 := HG3w8.out.cell 0 1 w2.heap.size _ _ _ rfl rfl rfl
    have lG4_0 := HG4w8.out.lt 0 w4.heap.size (by simp) rfl
    have cG4_0_0 := HG4w8.out.cell 0 0 w4.heap.size _ _ _ rfl rfl rfl
    have cG4_0_1 := HG4w8.out.cell 0 1 w4.heap.size _ _ _ rfl rfl rfl
    have lG4_1 := HG4w8.out.lt 1 (w4.heap.size + 1) (by simp) rfl
    have cG4_1_0 := HG4w8.out.cell 1 0 (w4.heap.size + 1) _ _ _ rfl rfl rfl
    have cG4_1_1 := HG4w8.out.cell 1 1 (w4.heap.size + 1) _ _ _ rfl rfl rfl
    go_wp2_with fail
    go_ret
    exact ⟨rfl, HG1w8.out.2.2⟩
end Go.Proofs.Ytcakfmpckbmdeac
