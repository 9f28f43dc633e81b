/-
  'mergeBegun' (package leeboardlaw).
-/
import Derived.Test.YtefdnddaggpgkaaF11
import Derived.Test.YtefdnddaggpgkaaW1
import Derived.Test.YtefdnddaggpgkaaW3
namespace Go.Proofs.Ytefdnddaggpgkaa
open Go.RowKit

def mO : List TP := [⟨1, 1, 1, 9, 1⟩, ⟨1, 0, 2, 9, 1⟩, ⟨1, 0, 1, 5, 1⟩]
def mQ : List TP := [⟨1, 0, 1, 5, 1⟩, ⟨1, 0, 2, 9, 1⟩, ⟨1, 1, 1, 9, 1⟩]
def mM : List TP := [⟨4, 2, 1, 30, 1⟩, ⟨1, 2, 2, 15, 1⟩, ⟨9, 2, 3, 70, 1⟩]
def mS : List TP := [⟨1, 2, 2, 15, 1⟩, ⟨1, 0, 1, 20, 1⟩, ⟨4, 2, 1, 30, 1⟩, ⟨1, 1, 1, 60, 1⟩, ⟨9, 2, 3, 70, 1⟩]
def mP : List TP := [⟨1, 2, 2, 15, 1⟩, ⟨1, 0, 1, 20, 1⟩, ⟨4, 2, 1, 30, 1⟩, ⟨1, 1, 1, 60, 1⟩]
def mD : List TP := [⟨9, 2, 3, 70, 1⟩]
def mV : List Int := (bldA bookT mS [] [] []).2.2.1

theorem m_e : ordE mO = 0 := by decide +kernel
theorem m_q : ordR mO = mQ := by
  rw [ordR, if_pos m_e]
  exact (srt_eq (by simp [Ord, mQ, befP]) (show mQ.Perm mO from List.reverse_perm mO) (by simp [DistP, mO])).symm
theorem m_s : srt (bookP ++ mM) = mS := by
  have hp : mS.Perm (bookP ++ mM) := by
    show [_, _, _, _, _].Perm [_, _, _, _, _]
    refine (List.Perm.swap _ _ _).trans (List.Perm.cons _ ?_)
    refine List.Perm.trans (List.Perm.cons _ (List.Perm.swap _ _ _)) ?_
    refine (List.Perm.swap _ _ _).trans (List.Perm.cons _ ?_)
    exact List.Perm.swap _ _ _
  exact (srt_eq (by simp [Ord, mS, befP]) hp (by simp [DistP, bookP, mM])).symm
theorem m_b : intoB bookT bookP mM = (0, mP, mV, mD) := by
  rw [intoB, m_s]
  rfl
theorem m_c : chkL bookT bookP bookV = 0 := by decide +kernel
theorem m_o : ordE (bookP ++ mM) = 0 := by decide +kernel
theorem m_i : intoE bookT bookP bookV mM = 0 := by
  rw [intoE, if_pos m_c, if_neg (by decide), if_pos m_o, m_b]
theorem m_p : intoP bookT bookP bookV mM = mP := by rw [intoP, if_pos m_i, m_b]
theorem m_v : intoV bookT bookP bookV mM = mV := by rw [intoV, if_pos m_i, m_b]
theorem m_d : intoD bookT bookP bookV mM = mD := by rw [intoD, if_pos m_i, m_b]
theorem m_t : intoT bookT bookP bookV mM = bookT := by rw [intoT, if_pos m_i]
theorem m_vv : mV = [1, 2, 1, 2] := by decide +kernel
set_option maxHeartbeats 6400000 in
set_option maxRecDepth 100000 in
theorem mergeBegun_any (w : World) : Calls Try.prog 7 #[] w fun e w' => e = .returned (.bool true) ∧ Below w.heap.size w w' := by
  have HB := hide (Below.refl w.heap.size w)
  go_enter Try.func7, Try.ntmps7
  go_wp2_with fail
  refine (at_any _ _ _ _ _).mono ?_
  rintro e w1 ⟨rfl, hb⟩
  have HB' := hide (HB.out.trans (hb.mono HB.out.size))
  clear HB
  have HB := HB'
  clear HB'
  clear hb
  go_wp2_with fail
  refine (at_any _ _ _ _ _).mono ?_
  rintro e w2 ⟨rfl, hb⟩
  have HB' := hide (HB.out.trans (hb.mono HB.out.size))
  clear HB
  have HB := HB'
  clear HB'
  clear hb
  go_wp2_with fail
  refine (at_any _ _ _ _ _).mono ?_
  rintro e w3 ⟨rfl, hb⟩
  have HB' := hide (HB.out.trans (hb.mono HB.out.size))
  clear HB
  have HB := HB'
  clear HB'
  clear hb
  go_wp2_with fail
  have hb := (Below.refl w3.heap.size w3).alloc (Nat.le_refl _) (.cells #[.int .i64 1, .int .i64 1, .int .i64 1, .int .i64 9, .int .i64 1, .int .i64 1, .int .i64 0, .int .i64 2, .int .i64 9, .int .i64 1, .int .i64 1, .int .i64 0, .int .i64 1, .int .i64 5, .int .i64 1] 28)
  have HO : Hid (TapsV (w3.alloc (.cells #[.int .i64 1, .int .i64 1, .int .i64 1, .int .i64 9, .int .i64 1, .int .i64 1, .int .i64 0, .int .i64 2, .int .i64 9, .int .i64 1, .int .i64 1, .int .i64 0, .int .i64 1, .int .i64 5, .int .i64 1] 28)) (.slice (some ⟨w3.heap.size, 0, none⟩) 3 3) mO) :=
    hide (tapsV_own (base := 0) (n := 3) ⟨rfl, .inr ⟨w3.heap.size, 3, _, rfl, Nat.zero_le _, heap_alloc_new _ _, Nat.le_refl _, by decide, rfl, rfl⟩⟩)
  have HB' := hide (HB.out.trans (hb.mono HB.out.size))
  clear HB
  have HB := HB'
  clear HB'
  clear hb
  generalize w3.alloc (.cells #[.int .i64 1, .int .i64 1, .int .i64 1, .int .i64 9, .int .i64 1, .int .i64 1, .int .i64 0, .int .i64 2, .int .i64 9, .int .i64 1, .int .i64 1, .int .i64 0, .int .i64 1, .int .i64 5, .int .i64 1] 28) = w4 at *
  refine (order_any (some ⟨w3.heap.size, 0, none⟩) 3 mO _ HO.out.eqs.2.1 (by decide) (by simp)).mono ?_
  rintro e w5 ⟨⟨oo, no, co, rfl, hov, -⟩, hb⟩
  rw [m_e]
  rw [m_q] at hov
  obtain ⟨rfl, hov, -, -⟩ := hov.eqs
  clear HO
  have HB' := hide (HB.out.trans (hb.mono HB.out.size))
  clear HB
  have HB := HB'
  clear HB'
  clear hb
  have HQ := hide hov
  clear hov
  clear hov
  rw [show mQ.length = 3 from rfl]
  go_wp2_with fail
  refine (book_any _).mono ?_
  rintro e w6 ⟨⟨vb, rfl, hvb⟩, hb⟩
  have HQ' := hide (HQ.out.below hb)
  clear HQ
  have HQ := HQ'
  clear HQ'
  have HB' := hide (HB.out.trans (hb.mono HB.out.size))
  clear HB
  have HB := HB'
  clear HB'
  clear hb
  obtain ⟨ob1, cb1, ob2, cb2, ob3, cb3, rfl, -⟩ := hvb.opened
  have HBk := hide hvb
  clear hvb
  go_wp2_with fail
  refine (at_any _ _ _ _ _).mono ?_
  rintro e w7 ⟨rfl, hb⟩
  have HQ' := hide (HQ.out.below hb)
  have HBk' := hide (HBk.out.below hb)
  clear HQ
  have HQ := HQ'
  clear HQ'
  clear HBk
  have HBk := HBk'
  clear HBk'
  have HB' := hide (HB.out.trans (hb.mono HB.out.size))
  clear HB
  have HB := HB'
  clear HB'
  clear hb
  go_wp2_with fail
  refine (at_any _ _ _ _ _).mono ?_
  rintro e w8 ⟨rfl, hb⟩
  have HQ' := hide (HQ.out.below hb)
  have HBk' := hide (HBk.out.below hb)
  clear HQ
  have HQ := HQ'
  clear HQ'
  clear HBk
  have HBk := HBk'
  clear HBk'
  have HB' := hide (HB.out.trans (hb.mono HB.out.size))
  clear HB
  have HB := HB'
  clear HB'
  clear hb
  go_wp2_with fail
  refine (at_any _ _ _ _ _).mono ?_
  rintro e w9 ⟨rfl, hb⟩
  have HQ' := hide (HQ.out.below hb)
  have HBk' := hide (HBk.out.below hb)
  clear HQ
  have HQ := HQ'
  clear HQ'
  clear HBk
  have HBk := HBk'
  clear HBk'
  have HB' := hide (HB.out.trans (hb.mono HB.out.size))
  clear HB
  have HB := HB'
  clear HB'
  clear hb
  go_wp2_with fail
  have hb := (Below.refl w9.heap.size w9).alloc (Nat.le_refl _) (.cells #[.int .i64 4, .int .i64 2, .int .i64 1, .int .i64 30, .int .i64 1, .int .i64 1, .int .i64 2, .int .i64 2, .int .i64 15, .int .i64 1, .int .i64 9, .int .i64 2, .int .i64 3, .int .i64 70, .int .i64 1] 28)
  have HM : Hid (TapsV (w9.alloc (.cells #[.int .i64 4, .int .i64 2, .int .i64 1, .int .i64 30, .int .i64 1, .int .i64 1, .int .i64 2, .int .i64 2, .int .i64 15, .int .i64 1, .int .i64 9, .int .i64 2, .int .i64 3, .int .i64 70, .int .i64 1] 28)) (.slice (some ⟨w9.heap.size, 0, none⟩) 3 3) mM) :=
    hide (tapsV_own (base := 0) (n := 3) ⟨rfl, .inr ⟨w9.heap.size, 3, _, rfl, Nat.zero_le _, heap_alloc_new _ _, Nat.le_refl _, by decide, rfl, rfl⟩⟩)
  have HQ' := hide (HQ.out.below hb)
  have HBk' := hide (HBk.out.below hb)
  clear HQ
  have HQ := HQ'
  clear HQ'
  clear HBk
  have HBk := HBk'
  clear HBk'
  have HB' := hide (HB.out.trans (hb.mono HB.out.size))
  clear HB
  have HB := HB'
  clear HB'
  clear hb
  generalize w9.alloc (.cells #[.int .i64 4, .int .i64 2, .int .i64 1, .int .i64 30, .int .i64 1, .int .i64 1, .int .i64 2, .int .i64 2, .int .i64 15, .int .i64 1, .int .i64 9, .int .i64 2, .int .i64 3, .int .i64 70, .int .i64 1] 28) = w10 at *
  refine (into_any bookT bookP bookV mM ob1 ob2 ob3 (some ⟨w9.heap.size, 0, none⟩) cb1 cb2 cb3 3 _ HBk.out book_lens HM.out.eqs.2.1 (by decide) (by simp)).mono ?_
  rintro e w11 ⟨⟨lv, od, nd, cd, rfl, hln, hod, -⟩, hb⟩
  rw [m_i]
  rw [m_t, m_p, m_v] at hln
  rw [m_d] at hod
  obtain ⟨rfl, hod, -, -⟩ := hod.eqs
  clear HM HBk
  have HQ' := hide (HQ.out.below hb)
  clear HQ
  have HQ := HQ'
  clear HQ'
  have HB' := hide (HB.out.trans (hb.mono HB.out.size))
  clear HB
  have HB := HB'
  clear HB'
  clear hb
  have HD := hide hod
  clear hod
  clear hod
  rw [show mD.length = 1 from rfl]
  obtain ⟨v1, v2, v3, rfl, ⟨⟨a1, x1, rfl, -, -⟩, -⟩, ⟨⟨a2, x2, rfl, -, -⟩, -⟩, ⟨⟨a3, x3, rfl, hv3, -⟩, -⟩⟩ := hln
  rw [m_vv] at hv3
  have HV := hide hv3
  clear hv3
  rw [show mP.length = 4 from rfl, show mV.length = 4 from rfl, show bookT.length = 2 from rfl]
  go_wp2_with fail
  have hb := (Below.refl w11.heap.size w11).alloc (Nat.le_refl _) (.cells #[.slice a1 2 x1, .slice a2 4 x2, .slice a3 4 x3] 26)
  have HGa := hide (heap_alloc_new w11 (.cells #[.slice a1 2 x1, .slice a2 4 x2, .slice a3 4 x3] 26))
  have HQ' := hide (HQ.out.below hb)
  have HD' := hide (HD.out.below hb)
  have HV' := hide (HV.out.below hb)
  clear HQ
  have HQ := HQ'
  clear HQ'
  clear HD
  have HD := HD'
  clear HD'
  clear HV
  have HV := HV'
  clear HV'
  have HB' := hide (HB.out.trans (hb.mono HB.out.size))
  clear HB
  have HB := HB'
  clear HB'
  clear hb
  generalize w11.alloc (.cells #[.slice a1 2 x1, .slice a2 4 x2, .slice a3 4 x3] 26) = w12 at *
  refine (at_any _ _ _ _ _).mono ?_
  rintro e w13 ⟨rfl, hb⟩
  have HQ' := hide (HQ.out.below hb)
  have HD' := hide (HD.out.below hb)
  have HV' := hide (HV.out.below hb)
  have HGa' := hide (at_below HGa.out hb)
  clear HQ
  have HQ := HQ'
  clear HQ'
  clear HD
  have HD := HD'
  clear HD'
  clear HV
  have HV := HV'
  clear HV'
  clear HGa
  have HGa := HGa'
  clear HGa'
  have HB' := hide (HB.out.trans (hb.mono HB.out.size))
  clear HB
  have HB := HB'
  clear HB'
  clear hb
  go_wp2_with fail
  refine (at_any _ _ _ _ _).mono ?_
  rintro e w14 ⟨rfl, hb⟩
  have HQ' := hide (HQ.out.below hb)
  have HD' := hide (HD.out.below hb)
  have HV' := hide (HV.out.below hb)
  have HGa' := hide (at_below HGa.out hb)
  clear HQ
  have HQ := HQ'
  clear HQ'
  clear HD
  have HD := HD'
  clear HD'
  clear HV
  have HV := HV'
  clear HV'
  clear HGa
  have HGa := HGa'
  clear HGa'
  have HB' := hide (HB.out.trans (hb.mono HB.out.size))
  clear HB
  have HB := HB'
  clear HB'
  clear hb
  go_wp2_with fail
  refine (at_any _ _ _ _ _).mono ?_
  rintro e w15 ⟨rfl, hb⟩
  have HQ' := hide (HQ.out.below hb)
  have HD' := hide (HD.out.below hb)
  have HV' := hide (HV.out.below hb)
  have HGa' := hide (at_below HGa.out hb)
  clear HQ
  have HQ := HQ'
  clear HQ'
  clear HD
  have HD := HD'
  clear HD'
  clear HV
  have HV := HV'
  clear HV'
  clear HGa
  have HGa := HGa'
  clear HGa'
  have HB' := hide (HB.out.trans (hb.mono HB.out.size))
  clear HB
  have HB := HB'
  clear HB'
  clear hb
  go_wp2_with fail
  have hb := (Below.refl w15.heap.size w15).alloc (Nat.le_refl _) (.cells #[.int .i64 1, .int .i64 0, .int .i64 1, .int .i64 5, .int .i64 1, .int .i64 1, .int .i64 0, .int .i64 2, .int .i64 9, .int .i64 1, .int .i64 1, .int .i64 1, .int .i64 1, .int .i64 9, .int .i64 1] 28)
  have HN : Hid (TapsV (w15.alloc (.cells #[.int .i64 1, .int .i64 0, .int .i64 1, .int .i64 5, .int .i64 1, .int .i64 1, .int .i64 0, .int .i64 2, .int .i64 9, .int .i64 1, .int .i64 1, .int .i64 1, .int .i64 1, .int .i64 9, .int .i64 1] 28)) (.slice (some ⟨w15.heap.size, 0, none⟩) 3 3) mQ) :=
    hide (tapsV_own (base := 0) (n := 3) ⟨rfl, .inr ⟨w15.heap.size, 3, _, rfl, Nat.zero_le _, heap_alloc_new _ _, Nat.le_refl _, by decide, rfl, rfl⟩⟩)
  have HQ' := hide (HQ.out.below hb)
  have HD' := hide (HD.out.below hb)
  have HV' := hide (HV.out.below hb)
  have HGa' := hide (at_below HGa.out hb)
  clear HQ
  have HQ := HQ'
  clear HQ'
  clear HD
  have HD := HD'
  clear HD'
  clear HV
  have HV := HV'
  clear HV'
  clear HGa
  have HGa := HGa'
  clear HGa'
  have HB' := hide (HB.out.trans (hb.mono HB.out.size))
  clear HB
  have HB := HB'
  clear HB'
  clear hb
  generalize w15.alloc (.cells #[.int .i64 1, .int .i64 0, .int .i64 1, .int .i64 5, .int .i64 1, .int .i64 1, .int .i64 0, .int .i64 2, .int .i64 9, .int .i64 1, .int .i64 1, .int .i64 1, .int .i64 1, .int .i64 9, .int .i64 1] 28) = w16 at *
  refine (sameTaps_same mQ oo (some ⟨w15.heap.size, 0, none⟩) co 3 _ HQ.out HN.out.eqs.2.1 (by decide)).mono ?_
  rintro e w17 ⟨rfl, hb⟩
  clear HN
  have HQ' := hide (HQ.out.below hb)
  have HD' := hide (HD.out.below hb)
  have HV' := hide (HV.out.below hb)
  have HGa' := hide (at_below HGa.out hb)
  clear HQ
  have HQ := HQ'
  clear HQ'
  clear HD
  have HD := HD'
  clear HD'
  clear HV
  have HV := HV'
  clear HV'
  clear HGa
  have HGa := HGa'
  clear HGa'
  have HB' := hide (HB.out.trans (hb.mono HB.out.size))
  clear HB
  have HB := HB'
  clear HB'
  clear hb
  clear HQ
  have b1 := cell_of_row _ _ 1 _ _ _ HGa.out
  have b2 := cell_of_row _ _ 2 _ _ _ HGa.out
  obtain ⟨A3, rfl, hA3⟩ := HV.out 1 2 rfl
  have hA4 : w17.cell? ⟨A3.block, A3.off + 1, none⟩ = some (.int .i64 2) := by rw [← hA3]; first | rfl | simp [Addr.add]
  go_wp2_with fail
  clear b1 b2 hA3 hA4 HGa HV
  refine (at_any _ _ _ _ _).mono ?_
  rintro e w18 ⟨rfl, hb⟩
  have HD' := hide (HD.out.below hb)
  clear HD
  have HD := HD'
  clear HD'
  have HB' := hide (HB.out.trans (hb.mono HB.out.size))
  clear HB
  have HB := HB'
  clear HB'
  clear hb
  go_wp2_with fail
  have hb := (Below.refl w18.heap.size w18).alloc (Nat.le_refl _) (.cells #[.int .i64 9, .int .i64 2, .int .i64 3, .int .i64 70, .int .i64 1] 28)
  have HN : Hid (TapsV (w18.alloc (.cells #[.int .i64 9, .int .i64 2, .int .i64 3, .int .i64 70, .int .i64 1] 28)) (.slice (some ⟨w18.heap.size, 0, none⟩) 1 1) mD) :=
    hide (tapsV_own (base := 0) (n := 1) ⟨rfl, .inr ⟨w18.heap.size, 1, _, rfl, Nat.zero_le _, heap_alloc_new _ _, Nat.le_refl _, by decide, rfl, rfl⟩⟩)
  have HD' := hide (HD.out.below hb)
  clear HD
  have HD := HD'
  clear HD'
  have HB' := hide (HB.out.trans (hb.mono HB.out.size))
  clear HB
  have HB := HB'
  clear HB'
  clear hb
  generalize w18.alloc (.cells #[.int .i64 9, .int .i64 2, .int .i64 3, .int .i64 70, .int .i64 1] 28) = w19 at *
  refine (sameTaps_same mD od (some ⟨w18.heap.size, 0, none⟩) cd 1 _ HD.out HN.out.eqs.2.1 (by decide)).mono ?_
  rintro e w20 ⟨rfl, hb⟩
  clear HN
  have HD' := hide (HD.out.below hb)
  clear HD
  have HD := HD'
  clear HD'
  have HB' := hide (HB.out.trans (hb.mono HB.out.size))
  clear HB
  have HB := HB'
  clear HB'
  clear hb
  go_wp2_with fail
  go_ret
  exact ⟨rfl, HB.out⟩
end Go.Proofs.Ytefdnddaggpgkaa
