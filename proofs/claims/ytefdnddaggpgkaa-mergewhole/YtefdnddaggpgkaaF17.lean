/-
  The walk of MergeNone.
-/
import Derived.Test.YtefdnddaggpgkaaF11
import Derived.Test.YtefdnddaggpgkaaW1
import Derived.Test.YtefdnddaggpgkaaW3
import Derived.Test.YtefdnddaggpgkaaF2
import Derived.Test.YtefdnddaggpgkaaR4
import Derived.Test.YtefdnddaggpgkaaF15
import Derived.Test.YtefdnddaggpgkaaW6
import Derived.Lib.QuietBelow
namespace Go.Proofs.Ytefdnddaggpgkaa
open Go.RowKit

def mO : List TP := [⟨1, 1, 1, 9, 1⟩, ⟨1, 0, 2, 9, 1⟩, ⟨1, 0, 1, 5, 1⟩]
def mQ : List TP := [⟨1, 0, 1, 5, 1⟩, ⟨1, 0, 2, 9, 1⟩, ⟨1, 1, 1, 9, 1⟩]
def mM : List TP := [⟨4, 2, 1, 30, 1⟩, ⟨1, 2, 2, 15, 1⟩, ⟨9, 2, 3, 70, 1⟩]
def mS : List TP := [⟨1, 2, 2, 15, 1⟩, ⟨1, 0, 1, 20, 1⟩, ⟨4, 2, 1, 30, 1⟩, ⟨1, 1, 1, 60, 1⟩, ⟨9, 2, 3, 70, 1⟩]
def mP : List TP := [⟨1, 2, 2, 15, 1⟩, ⟨1, 0, 1, 20, 1⟩, ⟨4, 2, 1, 30, 1⟩, ⟨1, 1, 1, 60, 1⟩]
def mD : List TP := [⟨9, 2, 3, 70, 1⟩]
def mV : List Int := (bldA bookT mS [] [] []).2.2.1

theorem m_e : ordE mO = 0 := by decide +kernel
theorem m_q : ordR mO = mQ := by
  rw [ordR, if_pos m_e]
  exact (srt_eq (by simp [Ord, mQ, befP]) (show mQ.Perm mO from List.reverse_perm mO) (by simp [DistP, mO])).symm
theorem m_s : srt (bookP ++ mM) = mS := by
  have hp : mS.Perm (bookP ++ mM) := by
    show [_, _, _, _, _].Perm [_, _, _, _, _]
    refine (List.Perm.swap _ _ _).trans (List.Perm.cons _ ?_)
    refine List.Perm.trans (List.Perm.cons _ (List.Perm.swap _ _ _)) ?_
    refine (List.Perm.swap _ _ _).trans (List.Perm.cons _ ?_)
    exact List.Perm.swap _ _ _
  exact (srt_eq (by simp [Ord, mS, befP]) hp (by simp [DistP, bookP, mM])).symm
theorem m_b : intoB bookT bookP mM = (0, mP, mV, mD) := by
  rw [intoB, m_s]
  rfl
theorem m_c : chkL bookT bookP bookV = 0 := by decide +kernel
theorem m_o : ordE (bookP ++ mM) = 0 := by decide +kernel
theorem m_i : intoE bookT bookP bookV mM = 0 := by
  rw [intoE, if_pos m_c, if_neg (by decide), if_pos m_o, m_b]
theorem m_p : intoP bookT bookP bookV mM = mP := by rw [intoP, if_pos m_i, m_b]
theorem m_v : intoV bookT bookP bookV mM = mV := by rw [intoV, if_pos m_i, m_b]
theorem m_d : intoD bookT bookP bookV mM = mD := by rw [intoD, if_pos m_i, m_b]
theorem m_t : intoT bookT bookP bookV mM = bookT := by rw [intoT, if_pos m_i]
theorem m_vv : mV = [1, 2, 1, 2] := by decide +kernel
set_option maxHeartbeats 6400000 in
set_option maxRecDepth 100000 in
theorem mergeBegun_any (w : World) : Calls Try.prog 7 #[] w fun e w' => e = .returned (.bool true) ∧ Below w.heap.size w w' := by
  have HB := hide (Below.refl w.heap.size w)
  go_enter Try.func7, Try.ntmps7
  go_wp2_with fail
  refine (at_any _ _ _ _ _).mono ?_
  rintro e w1 ⟨rfl, hb⟩
  have HB' := hide (HB.out.trans (hb.mono HB.out.size))
  clear HB
  have HB := HB'
  clear HB'
  clear hb
  go_wp2_with fail
  refine (at_any _ _ _ _ _).mono ?_
  rintro e w2 ⟨rfl, hb⟩
  have HB' := hide (HB.out.trans (hb.mono HB.out.size))
  clear HB
  have HB := HB'
  clear HB'
  clear hb
  go_wp2_with fail
  refine (at_any _ _ _ _ _).mono ?_
  rintro e w3 ⟨rfl, hb⟩
  have HB' := hide (HB.out.trans (hb.mono HB.out.size))
  clear HB
  have HB := HB'
  clear HB'
  clear hb
  go_wp2_with fail
  have hb := (Below.refl w3.heap.size w3).alloc (Nat.le_refl _) (.cells #[.int .i64 1, .int .i64 1, .int .i64 1, .int .i64 9, .int .i64 1, .int .i64 1, .int .i64 0, .int .i64 2, .int .i64 9, .int .i64 1, .int .i64 1, .int .i64 0, .int .i64 1, .int .i64 5, .int .i64 1] 28)
  have HO : Hid (TapsV (w3.alloc (.cells #[.int .i64 1, .int .i64 1, .int .i64 1, .int .i64 9, .int .i64 1, .int .i64 1, .int .i64 0, .int .i64 2, .int .i64 9, .int .i64 1, .int .i64 1, .int .i64 0, .int .i64 1, .int .i64 5, .int .i64 1] 28)) (.slice (some ⟨w3.heap.size, 0, none⟩) 3 3) mO) :=
    hide (tapsV_own (base := 0) (n := 3) ⟨rfl, .inr ⟨w3.heap.size, 3, _, rfl, Nat.zero_le _, heap_alloc_new _ _, Nat.le_refl _, by decide, rfl, rfl⟩⟩)
  have HB' := hide (HB.out.trans (hb.mono HB.out.size))
  clear HB
  have HB := HB'
  clear HB'
  clear hb
  generalize w3.alloc (.cells #[.int .i64 1, .int .i64 1, .int .i64 1, .int .i64 9, .int .i64 1, .int .i64 1, .int .i64 0, .int .i64 2, .int .i64 9, .int .i64 1, .int .i64 1, .int .i64 0, .int .i64 1, .int .i64 5, .int .i64 1] 28) = w4 at *
  refine (order_any (some ⟨w3.heap.size, 0, none⟩) 3 mO _ HO.out.eqs.2.1 (by decide) (by simp)).mono ?_
  rintro e w5 ⟨⟨oo, no, co, rfl, hov, -⟩, hb⟩
  rw [m_e]
  rw [m_q] at hov
  obtain ⟨rfl, hov, -, -⟩ := hov.eqs
  clear HO
  have HB' := hide (HB.out.trans (hb.mono HB.out.size))
  clear HB
  have HB := HB'
  clear HB'
  clear hb
  have HQ := hide hov
  clear hov
  clear hov
  rw [show mQ.length = 3 from rfl]
  go_wp2_with fail
  refine (book_any _).mono ?_
  rintro e w6 ⟨⟨vb, rfl, hvb⟩, hb⟩
  have HQ' := hide (HQ.out.below hb)
  clear HQ
  have HQ := HQ'
  clear HQ'
  have HB' := hide (HB.out.trans (hb.mono HB.out.size))
  clear HB
  have HB := HB'
  clear HB'
  clear hb
  obtain ⟨ob1, cb1, ob2, cb2, ob3, cb3, rfl, -⟩ := hvb.opened
  have HBk := hide hvb
  clear hvb
  go_wp2_with fail
  refine (at_any _ _ _ _ _).mono ?_
  rintro e w7 ⟨rfl, hb⟩
  have HQ' := hide (HQ.out.below hb)
  have HBk' := hide (HBk.out.below hb)
  clear HQ
  have HQ := HQ'
  clear HQ'
  clear HBk
  have HBk := HBk'
  clear HBk'
  have HB' := hide (HB.out.trans (hb.mono HB.out.size))
  clear HB
  have HB := HB'
  clear HB'
  clear hb
  go_wp2_with fail
  refine (at_any _ _ _ _ _).mono ?_
  rintro e w8 ⟨rfl, hb⟩
  have HQ' := hide (HQ.out.below hb)
  have HBk' := hide (HBk.out.below hb)
  clear HQ
  have HQ := HQ'
  clear HQ'
  clear HBk
  have HBk := HBk'
  clear HBk'
  have HB' := hide (HB.out.trans (hb.mono HB.out.size))
  clear HB
  have HB := HB'
  clear HB'
  clear hb
  go_wp2_with fail
  refine (at_any _ _ _ _ _).mono ?_
  rintro e w9 ⟨rfl, hb⟩
  have HQ' := hide (HQ.out.below hb)
  have HBk' := hide (HBk.out.below hb)
  clear HQ
  have HQ := HQ'
  clear HQ'
  clear HBk
  have HBk := HBk'
  clear HBk'
  have HB' := hide (HB.out.trans (hb.mono HB.out.size))
  clear HB
  have HB := HB'
  clear HB'
  clear hb
  go_wp2_with fail
  have hb := (Below.refl w9.heap.size w9).alloc (Nat.le_refl _) (.cells #[.int .i64 4, .int .i64 2, .int .i64 1, .int .i64 30, .int .i64 1, .int .i64 1, .int .i64 2, .int .i64 2, .int .i64 15, .int .i64 1, .int .i64 9, .int .i64 2, .int .i64 3, .int .i64 70, .int .i64 1] 28)
  have HM : Hid (TapsV (w9.alloc (.cells #[.int .i64 4, .int .i64 2, .int .i64 1, .int .i64 30, .int .i64 1, .int .i64 1, .int .i64 2, .int .i64 2, .int .i64 15, .int .i64 1, .int .i64 9, .int .i64 2, .int .i64 3, .int .i64 70, .int .i64 1] 28)) (.slice (some ⟨w9.heap.size, 0, none⟩) 3 3) mM) :=
    hide (tapsV_own (base := 0) (n := 3) ⟨rfl, .inr ⟨w9.heap.size, 3, _, rfl, Nat.zero_le _, heap_alloc_new _ _, Nat.le_refl _, by decide, rfl, rfl⟩⟩)
  have HQ' := hide (HQ.out.below hb)
  have HBk' := hide (HBk.out.below hb)
  clear HQ
  have HQ := HQ'
  clear HQ'
  clear HBk
  have HBk := HBk'
  clear HBk'
  have HB' := hide (HB.out.trans (hb.mono HB.out.size))
  clear HB
  have HB := HB'
  clear HB'
  clear hb
  generalize w9.alloc (.cells #[.int .i64 4, .int .i64 2, .int .i64 1, .int .i64 30, .int .i64 1, .int .i64 1, .int .i64 2, .int .i64 2, .int .i64 15, .int .i64 1, .int .i64 9, .int .i64 2, .int .i64 3, .int .i64 70, .int .i64 1] 28) = w10 at *
  refine (into_any bookT bookP bookV mM ob1 ob2 ob3 (some ⟨w9.heap.size, 0, none⟩) cb1 cb2 cb3 3 _ HBk.out book_lens HM.out.eqs.2.1 (by decide) (by simp)).mono ?_
  rintro e w11 ⟨⟨lv, od, nd, cd, rfl, hln, hod, -⟩, hb⟩
  rw [m_i]
  rw [m_t, m_p, m_v] at hln
  rw [m_d] at hod
  obtain ⟨rfl, hod, -, -⟩ := hod.eqs
  clear HM HBk
  have HQ' := hide (HQ.out.below hb)
  clear HQ
  have HQ := HQ'
  clear HQ'
  have HB' := hide (HB.out.trans (hb.mono HB.out.size))
  clear HB
  have HB := HB'
  clear HB'
  clear hb
  have HD := hide hod
  clear hod
  clear hod
  rw [show mD.length = 1 from rfl]
  obtain ⟨v1, v2, v3, rfl, ⟨⟨a1, x1, rfl, -, -⟩, -⟩, ⟨⟨a2, x2, rfl, -, -⟩, -⟩, ⟨⟨a3, x3, rfl, hv3, -⟩, -⟩⟩ := hln
  rw [m_vv] at hv3
  have HV := hide hv3
  clear hv3
  rw [show mP.length = 4 from rfl, show mV.length = 4 from rfl, show bookT.length = 2 from rfl]
  go_wp2_with fail
  have hb := (Below.refl w11.heap.size w11).alloc (Nat.le_refl _) (.cells #[.slice a1 2 x1, .slice a2 4 x2, .slice a3 4 x3] 26)
  have HGa := hide (heap_alloc_new w11 (.cells #[.slice a1 2 x1, .slice a2 4 x2, .slice a3 4 x3] 26))
  have HQ' := hide (HQ.out.below hb)
  have HD' := hide (HD.out.below hb)
  have HV' := hide (HV.out.below hb)
  clear HQ
  have HQ := HQ'
  clear HQ'
  clear HD
  have HD := HD'
  clear HD'
  clear HV
  have HV := HV'
  clear HV'
  have HB' := hide (HB.out.trans (hb.mono HB.out.size))
  clear HB
  have HB := HB'
  clear HB'
  clear hb
  generalize w11.alloc (.cells #[.slice a1 2 x1, .slice a2 4 x2, .slice a3 4 x3] 26) = w12 at *
  refine (at_any _ _ _ _ _).mono ?_
  rintro e w13 ⟨rfl, hb⟩
  have HQ' := hide (HQ.out.below hb)
  have HD' := hide (HD.out.below hb)
  have HV' := hide (HV.out.below hb)
  have HGa' := hide (at_below HGa.out hb)
  clear HQ
  have HQ := HQ'
  clear HQ'
  clear HD
  have HD := HD'
  clear HD'
  clear HV
  have HV := HV'
  clear HV'
  clear HGa
  have HGa := HGa'
  clear HGa'
  have HB' := hide (HB.out.trans (hb.mono HB.out.size))
  clear HB
  have HB := HB'
  clear HB'
  clear hb
  go_wp2_with fail
  refine (at_any _ _ _ _ _).mono ?_
  rintro e w14 ⟨rfl, hb⟩
  have HQ' := hide (HQ.out.below hb)
  have HD' := hide (HD.out.below hb)
  have HV' := hide (HV.out.below hb)
  have HGa' := hide (at_below HGa.out hb)
  clear HQ
  have HQ := HQ'
  clear HQ'
  clear HD
  have HD := HD'
  clear HD'
  clear HV
  have HV := HV'
  clear HV'
  clear HGa
  have HGa := HGa'
  clear HGa'
  have HB' := hide (HB.out.trans (hb.mono HB.out.size))
  clear HB
  have HB := HB'
  clear HB'
  clear hb
  go_wp2_with fail
  refine (at_any _ _ _ _ _).mono ?_
  rintro e w15 ⟨rfl, hb⟩
  have HQ' := hide (HQ.out.below hb)
  have HD' := hide (HD.out.below hb)
  have HV' := hide (HV.out.below hb)
  have HGa' := hide (at_below HGa.out hb)
  clear HQ
  have HQ := HQ'
  clear HQ'
  clear HD
  have HD := HD'
  clear HD'
  clear HV
  have HV := HV'
  clear HV'
  clear HGa
  have HGa := HGa'
  clear HGa'
  have HB' := hide (HB.out.trans (hb.mono HB.out.size))
  clear HB
  have HB := HB'
  clear HB'
  clear hb
  go_wp2_with fail
  have hb := (Below.refl w15.heap.size w15).alloc (Nat.le_refl _) (.cells #[.int .i64 1, .int .i64 0, .int .i64 1, .int .i64 5, .int .i64 1, .int .i64 1, .int .i64 0, .int .i64 2, .int .i64 9, .int .i64 1, .int .i64 1, .int .i64 1, .int .i64 1, .int .i64 9, .int .i64 1] 28)
  have HN : Hid (TapsV (w15.alloc (.cells #[.int .i64 1, .int .i64 0, .int .i64 1, .int .i64 5, .int .i64 1, .int .i64 1, .int .i64 0, .int .i64 2, .int .i64 9, .int .i64 1, .int .i64 1, .int .i64 1, .int .i64 1, .int .i64 9, .int .i64 1] 28)) (.slice (some ⟨w15.heap.size, 0, none⟩) 3 3) mQ) :=
    hide (tapsV_own (base := 0) (n := 3) ⟨rfl, .inr ⟨w15.heap.size, 3, _, rfl, Nat.zero_le _, heap_alloc_new _ _, Nat.le_refl _, by decide, rfl, rfl⟩⟩)
  have HQ' := hide (HQ.out.below hb)
  have HD' := hide (HD.out.below hb)
  have HV' := hide (HV.out.below hb)
  have HGa' := hide (at_below HGa.out hb)
  clear HQ
  have HQ := HQ'
  clear HQ'
  clear HD
  have HD := HD'
  clear HD'
  clear HV
  have HV := HV'
  clear HV'
  clear HGa
  have HGa := HGa'
  clear HGa'
  have HB' := hide (HB.out.trans (hb.mono HB.out.size))
  clear HB
  have HB := HB'
  clear HB'
  clear hb
  generalize w15.alloc (.cells #[.int .i64 1, .int .i64 0, .int .i64 1, .int .i64 5, .int .i64 1, .int .i64 1, .int .i64 0, .int .i64 2, .int .i64 9, .int .i64 1, .int .i64 1, .int .i64 1, .int .i64 1, .int .i64 9, .int .i64 1] 28) = w16 at *
  refine (sameTaps_same mQ oo (some ⟨w15.heap.size, 0, none⟩) co 3 _ HQ.out HN.out.eqs.2.1 (by decide)).mono ?_
  rintro e w17 ⟨rfl, hb⟩
  clear HN
  have HQ' := hide (HQ.out.below hb)
  have HD' := hide (HD.out.below hb)
  have HV' := hide (HV.out.below hb)
  have HGa' := hide (at_below HGa.out hb)
  clear HQ
  have HQ := HQ'
  clear HQ'
  clear HD
  have HD := HD'
  clear HD'
  clear HV
  have HV := HV'
  clear HV'
  clear HGa
  have HGa := HGa'
  clear HGa'
  have HB' := hide (HB.out.trans (hb.mono HB.out.size))
  clear HB
  have HB := HB'
  clear HB'
  clear hb
  clear HQ
  have b1 := cell_of_row _ _ 1 _ _ _ HGa.out
  have b2 := cell_of_row _ _ 2 _ _ _ HGa.out
  obtain ⟨A3, rfl, hA3⟩ := HV.out 1 2 rfl
  have hA4 : w17.cell? ⟨A3.block, A3.off + 1, none⟩ = some (.int .i64 2) := by rw [← hA3]; first | rfl | simp [Addr.add]
  go_wp2_with fail
  clear b1 b2 hA3 hA4 HGa HV
  refine (at_any _ _ _ _ _).mono ?_
  rintro e w18 ⟨rfl, hb⟩
  have HD' := hide (HD.out.below hb)
  clear HD
  have HD := HD'
  clear HD'
  have HB' := hide (HB.out.trans (hb.mono HB.out.size))
  clear HB
  have HB := HB'
  clear HB'
  clear hb
  go_wp2_with fail
  have hb := (Below.refl w18.heap.size w18).alloc (Nat.le_refl _) (.cells #[.int .i64 9, .int .i64 2, .int .i64 3, .int .i64 70, .int .i64 1] 28)
  have HN : Hid (TapsV (w18.alloc (.cells #[.int .i64 9, .int .i64 2, .int .i64 3, .int .i64 70, .int .i64 1] 28)) (.slice (some ⟨w18.heap.size, 0, none⟩) 1 1) mD) :=
    hide (tapsV_own (base := 0) (n := 1) ⟨rfl, .inr ⟨w18.heap.size, 1, _, rfl, Nat.zero_le _, heap_alloc_new _ _, Nat.le_refl _, by decide, rfl, rfl⟩⟩)
  have HD' := hide (HD.out.below hb)
  clear HD
  have HD := HD'
  clear HD'
  have HB' := hide (HB.out.trans (hb.mono HB.out.size))
  clear HB
  have HB := HB'
  clear HB'
  clear hb
  generalize w18.alloc (.cells #[.int .i64 9, .int .i64 2, .int .i64 3, .int .i64 70, .int .i64 1] 28) = w19 at *
  refine (sameTaps_same mD od (some ⟨w18.heap.size, 0, none⟩) cd 1 _ HD.out HN.out.eqs.2.1 (by decide)).mono ?_
  rintro e w20 ⟨rfl, hb⟩
  clear HN
  have HD' := hide (HD.out.below hb)
  clear HD
  have HD := HD'
  clear HD'
  have HB' := hide (HB.out.trans (hb.mono HB.out.size))
  clear HB
  have HB := HB'
  clear HB'
  clear hb
  go_wp2_with fail
  go_ret
  exact ⟨rfl, HB.out⟩

def befB (p q : TP) : Bool := decide (befP p q)

theorem befB_time {p q : TP} (h : (p.m != q.m) = true) : befB p q = decide (p.m < q.m) := by
  have h : p.m ≠ q.m := by simpa using h
  unfold befB
  apply decide_eq_decide.2
  unfold befP
  omega

theorem befB_gate {p q : TP} (h : (p.m != q.m) = false) (h' : (p.g != q.g) = true) : befB p q = decide (p.g < q.g) := by
  have h : p.m = q.m := by simpa using h
  have h' : p.g ≠ q.g := by simpa using h'
  unfold befB
  apply decide_eq_decide.2
  unfold befP
  omega

theorem befB_seq {p q : TP} (h : (p.m != q.m) = false) (h' : (p.g != q.g) = false) : befB p q = decide (p.s < q.s) := by
  have h : p.m = q.m := by simpa using h
  have h' : p.g = q.g := by simpa using h'
  unfold befB
  apply decide_eq_decide.2
  unfold befP
  omega

set_option maxHeartbeats 3200000 in
set_option maxRecDepth 100000 in
theorem isBefore_any (p q : TP) (w : World) : Calls Try.prog 22 #[tp p.a p.g p.s p.m p.z, tp q.a q.g q.s q.m q.z] w fun e w' => e = .returned (.bool (befB p q)) ∧ Below w.heap.size w w' := by
  have hb : Below w.heap.size w ((w.alloc (.cells #[.int .i64 p.a, .int .i64 p.g, .int .i64 p.s, .int .i64 p.m, .int .i64 p.z] 28)).alloc (.cells #[.int .i64 q.a, .int .i64 q.g, .int .i64 q.s, .int .i64 q.m, .int .i64 q.z] 28)) :=
    ((Below.refl _ _).alloc (Nat.le_refl _) _).alloc (by simp) _
  have HB := hide hb
  clear hb
  rcases hc1 : (p.m != q.m) with _ | _
  · rcases hc2 : (p.g != q.g) with _ | _
    · rw [befB_seq hc1 hc2]
      go_enter Try.func22, Try.ntmps22
      go_wp2_with fail
      go_ret
      exact ⟨rfl, HB.out⟩
    · rw [befB_gate hc1 hc2]
      go_enter Try.func22, Try.ntmps22
      go_wp2_with fail
      go_ret
      exact ⟨rfl, HB.out⟩
  · rw [befB_time hc1]
    go_enter Try.func22, Try.ntmps22
    go_wp2_with fail
    go_ret
    exact ⟨rfl, HB.out⟩

theorem same_ledM {w : World} {x y : Value} {T : List TK} {P : List TP} {V : List Int} (hx : LedV w x T P V) (hy : LedV w y T P V) (l1 : T.length ≤ 100) (l2 : P.length ≤ 100) (l3 : V.length ≤ 100) : Calls Try.prog 19 #[x, y] w fun e w' => e = .returned (.bool true) ∧ Below w.heap.size w w' := by
  obtain ⟨o1, c1, o2, c2, o3, c3, rfl, a1, a2, a3, -⟩ := hx.opened
  obtain ⟨q1, d1, q2, d2, q3, d3, rfl, b1, b2, b3, -⟩ := hy.opened
  exact sameLedger_same T P V o1 o2 o3 q1 q2 q3 c1 c2 c3 d1 d2 d3 w a1 a2 a3 b1 b2 b3 l1 l2 l3

set_option maxHeartbeats 12800000 in
set_option maxRecDepth 100000 in
theorem mergeNone_walk (o1 o2 o3 : Option Addr) (T : List TK) (P : List TP) (V : List Int) (c1 c2 c3 : Nat) (ot : Option Addr) (N : List TP) (ct : Nat) (w : World) (hled : LedV w (lg o1 o2 o3 T.length c1 P.length c2 V.length c3) T P V) (hl : LensOk T P V) (hN : TapsAt w ot N) (hlN : N.length ≤ 9223372036854775807) (hnt : ot = none → ct = 0) :
    Calls Try.prog 6 #[lg o1 o2 o3 T.length c1 P.length c2 V.length c3, .slice ot N.length ct] w fun e w' => e = .returned (.bool true) ∧ Below w.heap.size w w' := by
  have HG := hide ((Blks.nil w).more (.cells #[.slice o1 T.length c1, .slice o2 P.length c2, .slice o3 V.length c3] 26) (by simp))
  have HI := hide (fun W (h : LedV W (lg o1 o2 o3 T.length c1 P.length c2 V.length c3) T P V) => into_any T P V [] o1 o2 o3 none c1 c2 c3 0 W h hl (fun i p h => by simp at h) (by simp) (fun _ => rfl))
  have HO := hide (fun W (h : TapsAt W ot N) => order_any ot ct N W h hlN hnt)
  have HLed := hide hled
  have HNt := hide hN
  have HO2 := hide (fun h => And.intro (ordR_again (L := N) h) (And.intro (ordR_len (L := N) h) (And.intro (fun i p q => ordR_bef (L := N) h (i := i) (p := p) (q := q)) (ordE_right (L := N) h).1)))
  clear hled hN
  go_enter Try.func6, Try.ntmps6
  go_wp2_with fail
  refine (HO.out _ (HNt.out.below HG.out.2.2)).mono ?_
  rintro e w1 ⟨⟨oo, no, co, rfl, hTo, -⟩, hb⟩
  obtain ⟨rfl, to1, to2, to3⟩ := hTo.eqs
  have HT1 := hide (And.intro to1 to3)
  have HG1 := hide (HG.out.on hb)
  clear hb HG HO hTo to1 to2 to3
  generalize ordE N = E1 at *
  generalize ordR N = O at *
  go_wp2_with fail
  refine (mergeBegun_any _).mono ?_
  rintro e w2 ⟨rfl, hb⟩
  have HG2 := hide (HG1.out.on hb)
  have HT2 := hide (And.intro (HT1.out.1.below hb) HT1.out.2)
  clear hb HG1 HT1
  rcases hE1 : (E1 == 0) with _ | _
  · clear HO2
    have l0 := HG2.out.cell 0 0 w.heap.size _ _ _ rfl rfl rfl
    have l1 := HG2.out.cell 0 1 w.heap.size _ _ _ rfl rfl rfl
    have l2 := HG2.out.cell 0 2 w.heap.size _ _ _ rfl rfl rfl
    go_wp2_with fail
    refine (HI.out _ (HLed.out.below HG2.out.2.2)).mono ?_
    rintro e w5 ⟨⟨lv, od, nd, cd, rfl, ⟨v1, v2, v3, rfl, ⟨⟨a1, x1, rfl, ta⟩, -⟩, ⟨⟨a2, x2, rfl, tb⟩, -⟩, ⟨⟨a3, x3, rfl, tc⟩, -⟩⟩, hD, -⟩, hb⟩
    have hLa : LedV w5 (lg a1 a2 a3 (intoT T P V []).length x1 (intoP T P V []).length x2 (intoV T P V []).length x3) (intoT T P V []) (intoP T P V []) (intoV T P V []) := ⟨_, _, _, rfl, ⟨a1, x1, rfl, ta⟩, ⟨a2, x2, rfl, tb⟩, ⟨a3, x3, rfl, tc⟩⟩
    obtain ⟨rfl, -⟩ := hD.eqs
    have HA5 := hide hLa
    have HG5 := hide (HG2.out.on hb)
    clear hb HG2 l0 l1 l2 ta tb tc hLa hD
    have HF := hide (And.intro (fun h => into_err (T := T) (P := P) (V := V) (M := []) h) (And.intro (fun h => into_lens (T := T) (P := P) (V := V) (M := []) h) (And.intro (fun h => into_none (T := T) (P := P) (V := V) h) (fun h => into_small (T := T) (P := P) (V := V) (M := []) h))))
    generalize intoE T P V [] = E at *
    generalize intoT T P V [] = T2 at *
    generalize intoP T P V [] = P2 at *
    generalize intoV T P V [] = V2 at *
    generalize intoD T P V [] = D at *
    rcases hE : (E != 0) with _ | _
    rotate_left 1
    · obtain ⟨rfl, rfl, rfl, rfl⟩ := HF.out.1 (by simpa using hE)
      go_wp2_with fail
      go_ret
      exact ⟨by simp, HG5.out.2.2.alloc HG5.out.2.2.size _⟩
    · obtain rfl : E = 0 := by simpa using hE
      clear hE
      have HN := hide HF.out.2.2.1
      have hlens := HF.out.2.1 rfl
      obtain ⟨hs1, hs2, hs3', -⟩ := HF.out.2.2.2 rfl
      have hs3 : V.length ≤ 60 := by omega
      clear hs3'
      clear HF
      simp only [List.length_nil, Nat.add_zero] at hlens
      have HLens := hide hlens
      clear hlens
      go_wp2_with fail
      have hb := (Below.refl w5.heap.size w5).alloc (Nat.le_refl _) (cL a1 a2 a3 T2.length x1 P2.length x2 V2.length x3 26)
      have HZ6 : Hid (Led3 (w5.alloc (cL a1 a2 a3 T2.length x1 P2.length x2 V2.length x3 26)) w5.heap.size a1 a2 a3 T2.length x1 P2.length x2 V2.length x3) := hide ⟨by simp [go_sem], by simp [go_sem], by simp [go_sem]⟩
      have HA6 := hide (HA5.out.below hb)
      have HG6 := hide (HG5.out.on hb)
      clear HA5 HG5 hb
      generalize w5.alloc (cL a1 a2 a3 T2.length x1 P2.length x2 V2.length x3 26) = w6 at *
      generalize w5.heap.size = bz at *
      go_loopw [12] (fun j wr => ∃ (r : Nat), (r + 1 ≤ P.length ∨ r = 0) ∧ j = .int .i64 ((r : Int) + 1) ∧ Hid (∀ i p q, i < r → P[i]? = some p → P[i + 1]? = some q → befP p q) ∧ Hid (Below w6.heap.size w6 wr)) (fun j _ => P.length + 1 - (intOf j).toNat)
      case atStart => exact ⟨0, .inr rfl, rfl, hide (fun i p q h => by omega), hide (Below.refl _ _)⟩
      case round =>
        obtain ⟨r, hr, rfl, HP, HBr⟩ := hrel
        have HG7 := hide (HG6.out.on HBr.out)
        have HA7 := hide (HA6.out.below HBr.out)
        have HZ7 := hide (HZ6.out.below HBr.out HZ6.out.lt)
        have l0 := HG7.out.cell 0 0 w.heap.size _ _ _ rfl rfl rfl
        have l1 := HG7.out.cell 0 1 w.heap.size _ _ _ rfl rfl rfl
        have l2 := HG7.out.cell 0 2 w.heap.size _ _ _ rfl rfl rfl
        obtain ⟨z0, z1, z2⟩ := HZ7.out
        by_cases hgo : r + 1 < P.length
        · obtain ⟨p, hp⟩ : ∃ p, P[r]? = some p := ⟨P[r], by simp⟩
          obtain ⟨q, hq⟩ : ∃ q, P[r + 1]? = some q := ⟨P[r + 1], by simp [hgo]⟩
          have hLV := HLed.out.below HG7.out.2.2
          obtain ⟨A, rfl, c0, c1', c2', c3', c4'⟩ := hLV.parts3.2.1.eqs.2.1 r p hp
          obtain ⟨A', hA', d0, d1, d2, d3, d4⟩ := hLV.parts3.2.1.eqs.2.1 (r + 1) q hq
          cases hA'
          have HX := hide (And.intro hp hq)
          clear hp hq hLV
          have hgi : (r : Int) + 1 < P.length := by omega
          have hw1 : IntKind.i64.wrap (r : Int) = (r : Int) := by rw [IntKind.wrap_i64]; omega
          have hn1 : ((r : Int) + 1).toNat = r + 1 := by omega
          have hg0 : (0 : Int) ≤ (r : Int) + 1 := by omega
          have hrP : (r : Int) < P.length := by omega
          have k1 := cell_regrown l1
          have k0 := cell_regrown l0
          have k2 := cell_regrown l2
          have m0 := cell_regrown c0
          have m1 := cell_regrown c1'
          have m2 := cell_regrown c2'
          have m3 := cell_regrown c3'
          have m4 := cell_regrown c4'
          have e0 := cell_regrown d0
          have e1 := cell_regrown d1
          have e2 := cell_regrown d2
          have e3 := cell_regrown d3
          have e4 := cell_regrown d4
          rcases hbf : befB p q with _ | _
          · have cB : ∀ d os, Calls Try.prog 22 #[tp p.a p.g p.s p.m p.z, tp q.a q.g q.s q.m q.z] (Sort.grow (redrawn wr d) os) fun e w'' => e = .returned (.bool false) ∧ ∃ p : Regrown, w'' = Sort.grow (redrawn wr p.d) p.os :=
              fun d os => Calls.regrown_of (by have h := isBefore_any p q (Sort.grow (redrawn wr d) os); rw [hbf] at h; exact h)
            clear hbf l0 l2 c0 c1' c2' c3' c4' d0 d1 d2 d3 d4
            go_wp2_with fail
            refine wp_region_quiet_below (by kernel_rfl) (by kernel_rfl) ?_
            repeat (quiet_step (exact cB _ _))
            refine wpQuiet_nil ?_
            intro _ hw'
            obtain ⟨⟨dq, osq⟩, hw''⟩ := hw'
            subst hw''
            have hbw := below_regrown wr dq osq
            have HG8 := hide (HG7.out.on hbw)
            have HZ8 := hide (HZ7.out.below hbw HZ7.out.lt)
            clear hbw cB k0 k1 k2 m0 m1 m2 m3 m4 e0 e1 e2 e3 e4 l1 z0 z1 z2 HG7 HZ7
            generalize Sort.grow (redrawn wr dq) osq = w8 at *
            have l1 := HG8.out.cell 0 1 w.heap.size _ _ _ rfl rfl rfl
            obtain ⟨z0, z1, z2⟩ := HZ8.out
            have hww : IntKind.i64.wrap ((D.length : Int) + (P2.length : Int)) = (P.length : Int) := by have := HLens.out; rw [IntKind.wrap_i64]; omega
            go_wp2_with fail
            go_ret
            exact ⟨by simp, HG8.out.2.2⟩
          · have cB : ∀ d os, Calls Try.prog 22 #[tp p.a p.g p.s p.m p.z, tp q.a q.g q.s q.m q.z] (Sort.grow (redrawn wr d) os) fun e w'' => e = .returned (.bool true) ∧ ∃ p : Regrown, w'' = Sort.grow (redrawn wr p.d) p.os :=
              fun d os => Calls.regrown_of (by have h := isBefore_any p q (Sort.grow (redrawn wr d) os); rw [hbf] at h; exact h)
            have HBf := hide (show befP p q from of_decide_eq_true hbf)
            clear hbf l0 l2 c0 c1' c2' c3' c4' d0 d1 d2 d3 d4
            go_wp2_with fail
            refine wp_region_quiet_below (by kernel_rfl) (by kernel_rfl) ?_
            repeat (quiet_step (exact cB _ _))
            refine wpQuiet_nil ?_
            intro _ hw'
            obtain ⟨⟨dq, osq⟩, hw''⟩ := hw'
            subst hw''
            have hbw := below_regrown wr dq osq
            have HB8 := hide (HBr.out.trans (hbw.mono HBr.out.size))
            clear hbw cB k0 k1 k2 m0 m1 m2 m3 m4 e0 e1 e2 e3 e4 l1 z0 z1 z2 HG7 HZ7 HBr
            generalize Sort.grow (redrawn wr dq) osq = w8 at *
            have hw2 : IntKind.i64.wrap ((r : Int) + 1 + 1) = (r : Int) + 1 + 1 := by rw [IntKind.wrap_i64]; omega
            go_wp2_with fail
            refine ⟨⟨r + 1, .inl (by omega), by simp, hide (fun i x y hi hx hy => ?_), HB8⟩, by simp [intOf]; omega⟩
            by_cases h : i = r
            · subst h
              have h1 := HX.out.1
              have h2 := HX.out.2
              rw [h1] at hx
              rw [h2] at hy
              cases hx
              cases hy
              exact HBf.out
            · exact HP.out i x y (by omega) hx hy
        · obtain ⟨rfl, rfl, rfl, rfl⟩ := HN.out (by trivial) (fun i p q hp hq => HP.out i p q (by have := (List.getElem?_eq_some_iff.1 hq).1; omega) hp hq)
          have hgi : ¬ (r : Int) + 1 < P2.length := by omega
          have HS := hide (same_ledM HA7.out (HLed.out.below HG7.out.2.2) (by omega) (by omega) (by omega))
          clear HN HP
          go_wp2_with fail
          refine HS.out.mono ?_
          rintro e w8 ⟨rfl, hb⟩
          go_wp2_with fail
          go_ret
          exact ⟨rfl, HG7.out.2.2.trans (hb.mono HG7.out.2.2.size)⟩
  · obtain rfl : E1 = 0 := by simpa using hE1
    clear hE1
    obtain ⟨⟨g1, g2⟩, g3, g4, g5⟩ := HO2.out rfl
    have HBf := hide g4
    have HO3 := hide (fun W (h : TapsAt W oo O) => order_any oo co O W h (by omega) HT2.out.2)
    rw [g1, g2] at HO3
    have hO72 : O.length ≤ 72 := by omega
    have hne : ((O.length : Int) != (N.length : Int)) = false := by rw [g3]; simp
    clear g1 g2 g3 g4 HO2
    go_wp2_with fail
    refine (HO3.out _ HT2.out.1).mono ?_
    rintro e w3 ⟨⟨op, np, cp, rfl, hTo, -⟩, hb⟩
    obtain ⟨rfl, to1, to2, to3⟩ := hTo.eqs
    have HG3 := hide (HG2.out.on hb)
    have HT3 := hide (HT2.out.1.below hb)
    have HS3 := hide (sameTaps_same O oo op co cp w3 HT3.out to1 (by omega))
    clear hb HG2 HT2 hTo to1 to2 to3 HO3
    go_wp2_with fail
    refine HS3.out.mono ?_
    rintro e w4 ⟨rfl, hb⟩
    have HG4 := hide (HG3.out.on hb)
    have HT4 := hide (HT3.out.below hb)
    clear hb HG3 HT3 HS3
    go_wp2_with fail
    go_loopw [9] (fun j wr => ∃ (r : Nat), (r + 1 ≤ O.length ∨ r = 0) ∧ j = .int .i64 ((r : Int) + 1) ∧ Hid (Below w4.heap.size w4 wr)) (fun j _ => O.length + 1 - (intOf j).toNat)
    case atStart => exact ⟨0, .inr rfl, rfl, hide (Below.refl _ _)⟩
    case round =>
      obtain ⟨r, hr, rfl, HBr⟩ := hrel
      by_cases hgo : r + 1 < O.length
      · obtain ⟨p, hp⟩ : ∃ p, O[r]? = some p := ⟨O[r], by simp⟩
        obtain ⟨q, hq⟩ : ∃ q, O[r + 1]? = some q := ⟨O[r + 1], by simp [hgo]⟩
        have hbf := HBf.out _ _ _ hp hq
        obtain ⟨A, rfl, c0, c1', c2', c3', c4'⟩ := (HT4.out.below HBr.out) r p hp
        obtain ⟨A', hA', d0, d1, d2, d3, d4⟩ := (HT4.out.below HBr.out) (r + 1) q hq
        cases hA'
        clear hp hq
        have hgi : (r : Int) + 1 < O.length := by omega
        have hw1 : IntKind.i64.wrap (r : Int) = (r : Int) := by rw [IntKind.wrap_i64]; omega
        have hn1 : ((r : Int) + 1).toNat = r + 1 := by omega
        have hg0 : (0 : Int) ≤ (r : Int) + 1 := by omega
        have hrO : (r : Int) < O.length := by omega
        have m0 := cell_regrown c0
        have m1 := cell_regrown c1'
        have m2 := cell_regrown c2'
        have m3 := cell_regrown c3'
        have m4 := cell_regrown c4'
        have e0 := cell_regrown d0
        have e1 := cell_regrown d1
        have e2 := cell_regrown d2
        have e3 := cell_regrown d3
        have e4 := cell_regrown d4
        have cB : ∀ d os, Calls Try.prog 22 #[tp p.a p.g p.s p.m p.z, tp q.a q.g q.s q.m q.z] (Sort.grow (redrawn wr d) os) fun e w'' => e = .returned (.bool true) ∧ ∃ p : Regrown, w'' = Sort.grow (redrawn wr p.d) p.os :=
          fun d os => Calls.regrown_of (by have h := isBefore_any p q (Sort.grow (redrawn wr d) os); rw [show befB p q = true from decide_eq_true hbf] at h; exact h)
        clear hbf c0 c1' c2' c3' c4' d0 d1 d2 d3 d4
        go_wp2_with fail
        refine wp_region_quiet_below (by kernel_rfl) (by kernel_rfl) ?_
        repeat (quiet_step (exact cB _ _))
        refine wpQuiet_nil ?_
        intro _ hw'
        obtain ⟨⟨dq, osq⟩, hw''⟩ := hw'
        subst hw''
        have hbw := below_regrown wr dq osq
        have HB8 := hide (HBr.out.trans (hbw.mono HBr.out.size))
        clear hbw cB m0 m1 m2 m3 m4 e0 e1 e2 e3 e4 HBr
        generalize Sort.grow (redrawn wr dq) osq = w8 at *
        have hw2 : IntKind.i64.wrap ((r : Int) + 1 + 1) = (r : Int) + 1 + 1 := by rw [IntKind.wrap_i64]; omega
        go_wp2_with fail
        exact ⟨⟨r + 1, .inl (by omega), by simp, HB8⟩, by simp [intOf]; omega⟩
      · have hgi : ¬ (r : Int) + 1 < O.length := by omega
        have HGr := hide (HG4.out.on HBr.out)
        clear HBr HBf HT4
        have l0 := HGr.out.cell 0 0 w.heap.size _ _ _ rfl rfl rfl
        have l1 := HGr.out.cell 0 1 w.heap.size _ _ _ rfl rfl rfl
        have l2 := HGr.out.cell 0 2 w.heap.size _ _ _ rfl rfl rfl
        go_wp2_with fail
        refine (HI.out _ (HLed.out.below HGr.out.2.2)).mono ?_
        rintro e w5 ⟨⟨lv, od, nd, cd, rfl, ⟨v1, v2, v3, rfl, ⟨⟨a1, x1, rfl, ta⟩, -⟩, ⟨⟨a2, x2, rfl, tb⟩, -⟩, ⟨⟨a3, x3, rfl, tc⟩, -⟩⟩, hD, -⟩, hb⟩
        have hLa : LedV w5 (lg a1 a2 a3 (intoT T P V []).length x1 (intoP T P V []).length x2 (intoV T P V []).length x3) (intoT T P V []) (intoP T P V []) (intoV T P V []) := ⟨_, _, _, rfl, ⟨a1, x1, rfl, ta⟩, ⟨a2, x2, rfl, tb⟩, ⟨a3, x3, rfl, tc⟩⟩
        obtain ⟨rfl, -⟩ := hD.eqs
        have HA5 := hide hLa
        have HG5 := hide (HGr.out.on hb)
        clear hb HGr l0 l1 l2 ta tb tc hLa hD
        have HF := hide (And.intro (fun h => into_err (T := T) (P := P) (V := V) (M := []) h) (And.intro (fun h => into_lens (T := T) (P := P) (V := V) (M := []) h) (And.intro (fun h => into_none (T := T) (P := P) (V := V) h) (fun h => into_small (T := T) (P := P) (V := V) (M := []) h))))
        generalize intoE T P V [] = E at *
        generalize intoT T P V [] = T2 at *
        generalize intoP T P V [] = P2 at *
        generalize intoV T P V [] = V2 at *
        generalize intoD T P V [] = D at *
        rcases hE : (E != 0) with _ | _
        rotate_left 1
        · obtain ⟨rfl, rfl, rfl, rfl⟩ := HF.out.1 (by simpa using hE)
          go_wp2_with fail
          go_ret
          exact ⟨by simp, HG5.out.2.2.alloc HG5.out.2.2.size _⟩
        · obtain rfl : E = 0 := by simpa using hE
          clear hE
          have HN := hide HF.out.2.2.1
          have hlens := HF.out.2.1 rfl
          obtain ⟨hs1, hs2, hs3', -⟩ := HF.out.2.2.2 rfl
          have hs3 : V.length ≤ 60 := by omega
          clear hs3'
          clear HF
          simp only [List.length_nil, Nat.add_zero] at hlens
          have HLens := hide hlens
          clear hlens
          go_wp2_with fail
          have hb := (Below.refl w5.heap.size w5).alloc (Nat.le_refl _) (cL a1 a2 a3 T2.length x1 P2.length x2 V2.length x3 26)
          have HZ6 : Hid (Led3 (w5.alloc (cL a1 a2 a3 T2.length x1 P2.length x2 V2.length x3 26)) w5.heap.size a1 a2 a3 T2.length x1 P2.length x2 V2.length x3) := hide ⟨by simp [go_sem], by simp [go_sem], by simp [go_sem]⟩
          have HA6 := hide (HA5.out.below hb)
          have HG6 := hide (HG5.out.on hb)
          clear HA5 HG5 hb
          generalize w5.alloc (cL a1 a2 a3 T2.length x1 P2.length x2 V2.length x3 26) = w6 at *
          generalize w5.heap.size = bz at *
          go_loopw [12] (fun j wr => ∃ (r : Nat), (r + 1 ≤ P.length ∨ r = 0) ∧ j = .int .i64 ((r : Int) + 1) ∧ Hid (∀ i p q, i < r → P[i]? = some p → P[i + 1]? = some q → befP p q) ∧ Hid (Below w6.heap.size w6 wr)) (fun j _ => P.length + 1 - (intOf j).toNat)
          case atStart => exact ⟨0, .inr rfl, rfl, hide (fun i p q h => by omega), hide (Below.refl _ _)⟩
          case round =>
            obtain ⟨r, hr, rfl, HP, HBr⟩ := hrel
            have HG7 := hide (HG6.out.on HBr.out)
            have HA7 := hide (HA6.out.below HBr.out)
            have HZ7 := hide (HZ6.out.below HBr.out HZ6.out.lt)
            have l0 := HG7.out.cell 0 0 w.heap.size _ _ _ rfl rfl rfl
            have l1 := HG7.out.cell 0 1 w.heap.size _ _ _ rfl rfl rfl
            have l2 := HG7.out.cell 0 2 w.heap.size _ _ _ rfl rfl rfl
            obtain ⟨z0, z1, z2⟩ := HZ7.out
            by_cases hgo : r + 1 < P.length
            · obtain ⟨p, hp⟩ : ∃ p, P[r]? = some p := ⟨P[r], by simp⟩
              obtain ⟨q, hq⟩ : ∃ q, P[r + 1]? = some q := ⟨P[r + 1], by simp [hgo]⟩
              have hLV := HLed.out.below HG7.out.2.2
              obtain ⟨A, rfl, c0, c1', c2', c3', c4'⟩ := hLV.parts3.2.1.eqs.2.1 r p hp
              obtain ⟨A', hA', d0, d1, d2, d3, d4⟩ := hLV.parts3.2.1.eqs.2.1 (r + 1) q hq
              cases hA'
              have HX := hide (And.intro hp hq)
              clear hp hq hLV
              have hgi : (r : Int) + 1 < P.length := by omega
              have hw1 : IntKind.i64.wrap (r : Int) = (r : Int) := by rw [IntKind.wrap_i64]; omega
              have hn1 : ((r : Int) + 1).toNat = r + 1 := by omega
              have hg0 : (0 : Int) ≤ (r : Int) + 1 := by omega
              have hrP : (r : Int) < P.length := by omega
              have k1 := cell_regrown l1
              have k0 := cell_regrown l0
              have k2 := cell_regrown l2
              have m0 := cell_regrown c0
              have m1 := cell_regrown c1'
              have m2 := cell_regrown c2'
              have m3 := cell_regrown c3'
              have m4 := cell_regrown c4'
              have e0 := cell_regrown d0
              have e1 := cell_regrown d1
              have e2 := cell_regrown d2
              have e3 := cell_regrown d3
              have e4 := cell_regrown d4
              rcases hbf : befB p q with _ | _
              · have cB : ∀ d os, Calls Try.prog 22 #[tp p.a p.g p.s p.m p.z, tp q.a q.g q.s q.m q.z] (Sort.grow (redrawn wr d) os) fun e w'' => e = .returned (.bool false) ∧ ∃ p : Regrown, w'' = Sort.grow (redrawn wr p.d) p.os :=
                  fun d os => Calls.regrown_of (by have h := isBefore_any p q (Sort.grow (redrawn wr d) os); rw [hbf] at h; exact h)
                clear hbf l0 l2 c0 c1' c2' c3' c4' d0 d1 d2 d3 d4
                go_wp2_with fail
                refine wp_region_quiet_below (by kernel_rfl) (by kernel_rfl) ?_
                repeat (quiet_step (exact cB _ _))
                refine wpQuiet_nil ?_
                intro _ hw'
                obtain ⟨⟨dq, osq⟩, hw''⟩ := hw'
                subst hw''
                have hbw := below_regrown wr dq osq
                have HG8 := hide (HG7.out.on hbw)
                have HZ8 := hide (HZ7.out.below hbw HZ7.out.lt)
                clear hbw cB k0 k1 k2 m0 m1 m2 m3 m4 e0 e1 e2 e3 e4 l1 z0 z1 z2 HG7 HZ7
                generalize Sort.grow (redrawn wr dq) osq = w8 at *
                have l1 := HG8.out.cell 0 1 w.heap.size _ _ _ rfl rfl rfl
                obtain ⟨z0, z1, z2⟩ := HZ8.out
                have hww : IntKind.i64.wrap ((D.length : Int) + (P2.length : Int)) = (P.length : Int) := by have := HLens.out; rw [IntKind.wrap_i64]; omega
                go_wp2_with fail
                go_ret
                exact ⟨by simp, HG8.out.2.2⟩
              · have cB : ∀ d os, Calls Try.prog 22 #[tp p.a p.g p.s p.m p.z, tp q.a q.g q.s q.m q.z] (Sort.grow (redrawn wr d) os) fun e w'' => e = .returned (.bool true) ∧ ∃ p : Regrown, w'' = Sort.grow (redrawn wr p.d) p.os :=
                  fun d os => Calls.regrown_of (by have h := isBefore_any p q (Sort.grow (redrawn wr d) os); rw [hbf] at h; exact h)
                have HBf := hide (show befP p q from of_decide_eq_true hbf)
                clear hbf l0 l2 c0 c1' c2' c3' c4' d0 d1 d2 d3 d4
                go_wp2_with fail
                refine wp_region_quiet_below (by kernel_rfl) (by kernel_rfl) ?_
                repeat (quiet_step (exact cB _ _))
                refine wpQuiet_nil ?_
                intro _ hw'
                obtain ⟨⟨dq, osq⟩, hw''⟩ := hw'
                subst hw''
                have hbw := below_regrown wr dq osq
                have HB8 := hide (HBr.out.trans (hbw.mono HBr.out.size))
                clear hbw cB k0 k1 k2 m0 m1 m2 m3 m4 e0 e1 e2 e3 e4 l1 z0 z1 z2 HG7 HZ7 HBr
                generalize Sort.grow (redrawn wr dq) osq = w8 at *
                have hw2 : IntKind.i64.wrap ((r : Int) + 1 + 1) = (r : Int) + 1 + 1 := by rw [IntKind.wrap_i64]; omega
                go_wp2_with fail
                refine ⟨⟨r + 1, .inl (by omega), by simp, hide (fun i x y hi hx hy => ?_), HB8⟩, by simp [intOf]; omega⟩
                by_cases h : i = r
                · subst h
                  have h1 := HX.out.1
                  have h2 := HX.out.2
                  rw [h1] at hx
                  rw [h2] at hy
                  cases hx
                  cases hy
                  exact HBf.out
                · exact HP.out i x y (by omega) hx hy
            · obtain ⟨rfl, rfl, rfl, rfl⟩ := HN.out (by trivial) (fun i p q hp hq => HP.out i p q (by have := (List.getElem?_eq_some_iff.1 hq).1; omega) hp hq)
              have hgi : ¬ (r : Int) + 1 < P2.length := by omega
              have HS := hide (same_ledM HA7.out (HLed.out.below HG7.out.2.2) (by omega) (by omega) (by omega))
              clear HN HP
              go_wp2_with fail
              refine HS.out.mono ?_
              rintro e w8 ⟨rfl, hb⟩
              go_wp2_with fail
              go_ret
              exact ⟨rfl, HG7.out.2.2.trans (hb.mono HG7.out.2.2.size)⟩

end Go.Proofs.Ytefdnddaggpgkaa
