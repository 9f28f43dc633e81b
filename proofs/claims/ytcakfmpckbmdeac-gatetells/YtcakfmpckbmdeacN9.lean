/-
  'SameDenied' (package leeboardref) of the same ones; 'deniedBegun' (package leeboardlaw).
-/
import Derived.Test.YtcakfmpckbmdeacN8
import Derived.Test.YtcakfmpckbmdeacQ1
namespace Go.Proofs.Ytcakfmpckbmdeac
open Go.RowKit

theorem sameDenied_same (v : Int) (L : List Int) (o o' : Option Addr) (c c' : Nat) (w : World) (hL : IntsAt w o L) (hM : IntsAt w o' L) (hlen : L.length ≤ 100) :
    Calls Try.prog 26 #[dn v o L.length c, dn v o' L.length c'] w fun e w' => e = .returned (.bool true) ∧ Below w.heap.size w w' := by
  have HB := hide (((Blks.nil w).more (.cells #[.int .i64 v, .slice o L.length c] 45) (by simp)).more (.cells #[.int .i64 v, .slice o' L.length c'] 45) (by simp))
  have HL := hide hL
  have HM := hide hM
  clear hL hM
  go_enter Try.func26, Try.ntmps26
  go_wp2_with fail
  refine (sameInts_same L o o' c c' _ (HL.out.below HB.out.2.2) (HM.out.below HB.out.2.2) hlen).mono ?_
  rintro e w1 ⟨rfl, hb⟩
  have HB1 := hide (HB.out.on hb)
  clear hb HB
  go_wp2_with fail
  go_ret
  exact ⟨rfl, HB1.out.2.2⟩

theorem intsAt_two {w : World} {b : Nat} {x y : Int} (h0 : w.cell? ⟨b, 0, none⟩ = some (.int .i64 x)) (h1 : w.cell? ⟨b, 1, none⟩ = some (.int .i64 y)) : IntsAt w (some ⟨b, 0, none⟩) [x, y] := by
  intro i v hv
  match i, hv with
  | 0, hv =>
    simp at hv
    subst hv
    exact ⟨_, rfl, by simpa [Addr.add] using h0⟩
  | 1, hv =>
    simp at hv
    subst hv
    exact ⟨_, rfl, by simpa [Addr.add] using h1⟩
  | i + 2, hv => simp at hv

set_option maxHeartbeats 3200000 in
theorem deniedBegun_any (w : World) : Calls Try.prog 22 #[] w fun e w' => e = .returned (.bool true) ∧ Below w.heap.size w w' := by
  have e1 : addE 2 [3, 9] 5 = 0 := by decide +kernel
  have e2 : addI [3, 9] 5 = [3, 5, 9] := by decide +kernel
  have e3 : newE 0 [] 3 [3, 5, 9] = 0 := by decide +kernel
  have e4 : unfD 3 [3, 5, 9] 5 = 0 := by decide +kernel
  have e5 : hasI [3, 5, 9] 5 = true := by decide +kernel
  have e6 : addE 3 [3, 5, 9] 5 = 6 := by decide +kernel
  have e7 : chkD 3 [3, 5, 9] = 0 := by decide +kernel
  have HA := hide (fun W o c (h : IntsAt W o [3, 9]) (h1 : 2 ≤ c) (h2 : o = none → c = 0) => add_any 2 5 [3, 9] o c W h (by simp) h1 h2)
  have HA' := hide (fun W o c (h : IntsAt W o [3, 5, 9]) (h1 : 3 ≤ c) (h2 : o = none → c = 0) => add_any 3 5 [3, 5, 9] o c W h (by simp) h1 h2)
  have HN := hide (fun W o c (h : IntsAt W o [3, 5, 9]) => newer_any 0 3 [] [3, 5, 9] none o 0 c W (fun i p h => by simp at h) h (by simp) (by simp))
  have HH := hide (fun W o c (h : IntsAt W o [3, 5, 9]) => has_any 3 5 [3, 5, 9] o c W h (by simp))
  have HC := hide (fun W o c (h : IntsAt W o [3, 5, 9]) => denCheck_any 3 [3, 5, 9] o c W h (by simp))
  have HS := hide (fun W o o' c c' (h : IntsAt W o [3, 5, 9]) (h' : IntsAt W o' [3, 5, 9]) => sameDenied_same 3 [3, 5, 9] o o' c c' W h h' (by simp))
  rw [e1, e2, if_pos rfl, if_pos rfl, show (2 : Int) + 1 = 3 from rfl] at HA
  rw [e3, if_pos rfl, if_pos rfl, if_pos (by decide), if_pos (by decide)] at HN
  rw [e4, e5] at HH
  rw [e6, if_neg (by decide), if_neg (by decide)] at HA'
  rw [e7] at HC
  clear e1 e2 e3 e4 e5 e6 e7
  go_enter Try.func22, Try.ntmps22
  go_wp2_with fail
  have HB0 := hide ((Blks.nil w).more (.cells #[.int .i64 3, .int .i64 9] 3) (by simp))
  refine (HA.out _ _ _ (intsAt_two (HB0.out.cell 0 0 _ _ _ _ rfl rfl rfl) (HB0.out.cell 0 1 _ _ _ _ rfl rfl rfl)) (Nat.le_refl _) (fun h => by cases h)).mono ?_
  rintro e w1 ⟨⟨u, rfl, ⟨-, rfl, o, c, rfl, hI, hc, hn⟩⟩, hb1⟩
  have HB1 := hide (HB0.out.on hb1)
  have HI := hide (And.intro hI (And.intro hc hn))
  clear hb1 hI hc hn HB0 HA
  go_wp2_with fail
  have HD := hide ((Blks.nil w1).more (.cells #[.int .i64 3, .slice o 3 c] 45) (by simp))
  refine (HN.out _ o c (HI.out.1.below HD.out.2.2)).mono ?_
  rintro e w2 ⟨⟨u, rfl, ⟨-, rfl, o2, c2, rfl, hI2, -, -⟩⟩, hb2⟩
  have HD2 := hide (HD.out.on hb2)
  have HI2 := hide hI2
  have x0 := HD2.out.cell 0 0 w1.heap.size _ _ _ rfl rfl rfl
  have x1 := HD2.out.cell 0 1 w1.heap.size _ _ _ rfl rfl rfl
  have hlt : w1.heap.size < w2.heap.size := by have := HD2.out.2.1; simp at this; omega
  clear hb2 hI2 HD HN
  go_wp2_with fail
  have HE := hide ((Blks.nil w2).more (.cells #[.int .i64 3, .slice o2 3 c2] 45) (by simp))
  refine (HH.out _ o c (HI.out.1.below (HD2.out.on HE.out.2.2).2.2)).mono ?_
  rintro e w3 ⟨rfl, hb3⟩
  have HE3 := hide (HE.out.on hb3)
  have HD3 := hide (HD2.out.on HE3.out.2.2)
  clear hb3 x0 x1 HE HD2 HH
  have x0 := HD3.out.cell 0 0 w1.heap.size _ _ _ rfl rfl rfl
  have x1 := HD3.out.cell 0 1 w1.heap.size _ _ _ rfl rfl rfl
  go_wp2_with fail
  refine (HA'.out _ o c (HI.out.1.below HD3.out.2.2) HI.out.2.1 HI.out.2.2).mono ?_
  rintro e w4 ⟨⟨u, rfl, ⟨-, rfl, o4, c4, rfl, -, -, -⟩⟩, hb4⟩
  have HE4 := hide (HE3.out.on hb4)
  have HD4 := hide (HD3.out.on hb4)
  clear hb4 x0 x1 HE3 HD3 HA'
  have x0 := HD4.out.cell 0 0 w1.heap.size _ _ _ rfl rfl rfl
  have x1 := HD4.out.cell 0 1 w1.heap.size _ _ _ rfl rfl rfl
  have hl1 : w1.heap.size < w4.heap.size := by have := HD4.out.2.1; simp at this; omega
  have hl2 : w2.heap.size < w4.heap.size := by have := HE4.out.2.1; simp at this; omega
  go_wp2_with fail
  have HF := hide ((Below.refl w4.heap.size w4).alloc (Nat.le_refl _) (.cells #[.int .i64 0, .slice o4 0 c4] 45))
  refine (HC.out _ o c (HI.out.1.below (HD4.out.on HF.out).2.2)).mono ?_
  rintro e w5 ⟨rfl, hb5⟩
  have HE5 := hide ((HE4.out.on HF.out).on hb5)
  have HD5 := hide ((HD4.out.on HF.out).on hb5)
  clear hb5 x0 x1 HE4 HD4 HC HF
  have x0 := HD5.out.cell 0 0 w1.heap.size _ _ _ rfl rfl rfl
  have x1 := HD5.out.cell 0 1 w1.heap.size _ _ _ rfl rfl rfl
  have y0 := HE5.out.cell 0 0 w2.heap.size _ _ _ rfl rfl rfl
  have y1 := HE5.out.cell 0 1 w2.heap.size _ _ _ rfl rfl rfl
  obtain ⟨A, hA, z1⟩ := (HI.out.1.below HD5.out.2.2) 1 5 rfl
  subst hA
  simp [Addr.add] at z1
  go_wp2_with fail
  refine (HS.out _ o2 (some A) c2 c (HI2.out.below HE5.out.2.2) (HI.out.1.below HD5.out.2.2)).mono ?_
  rintro e w6 ⟨rfl, hb6⟩
  have HB6 := hide (HB1.out.on (HD5.out.on hb6).2.2)
  clear hb6 x0 x1 y0 y1
  go_wp2_with fail
  go_ret
  exact ⟨rfl, HB6.out.2.2⟩
end Go.Proofs.Ytcakfmpckbmdeac
