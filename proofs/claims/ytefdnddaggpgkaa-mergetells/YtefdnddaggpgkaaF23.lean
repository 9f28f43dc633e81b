/-
  'tapsAre', and the walk of MergeTells.
-/
import Derived.Test.YtefdnddaggpgkaaW3
import Derived.Test.YtefdnddaggpgkaaQ1
import Derived.Test.YtefdnddaggpgkaaW1
import Derived.Test.YtefdnddaggpgkaaF11
import Derived.Test.YtefdnddaggpgkaaX3
import Derived.Test.YtefdnddaggpgkaaF9
import Derived.Test.YtefdnddaggpgkaaF2
import Derived.Test.YtefdnddaggpgkaaR4
import Derived.Test.YtefdnddaggpgkaaF7
import Derived.Test.YtefdnddaggpgkaaF15
import Derived.Test.YtefdnddaggpgkaaH5
import Derived.Lib.QuietBelow
import Derived.Test.YtefdnddaggpgkaaU1
import Derived.Test.YtefdnddaggpgkaaF10
import Derived.Test.YtefdnddaggpgkaaR7
namespace Go.Proofs.Ytefdnddaggpgkaa
open Go.RowKit

set_option maxHeartbeats 3200000 in
set_option maxRecDepth 100000 in
theorem sameTickets_same (L : List TK) (o o' : Option Addr) (c c' : Nat) (w : World) (hL : TiksAt w o L) (hM : TiksAt w o' L) (hlen : L.length ≤ 100) :
    Calls Try.prog 21 #[.slice o L.length c, .slice o' L.length c'] w fun e w' => e = .returned (.bool true) ∧ Below w.heap.size w w' := by
  have HL := hide hL
  have HM := hide hM
  clear hL hM
  go_enter Try.func21, Try.ntmps21
  go_wp2_with fail
  go_loopw [5] (fun j wr => ∃ (q : Nat), q ≤ L.length ∧ j = .int .i64 q ∧ Below w.heap.size w wr) (fun j _ => L.length - (intOf j).toNat)
  case atStart => exact ⟨0, Nat.zero_le _, rfl, Below.refl _ _⟩
  case round =>
    obtain ⟨q, hq, rfl, hbr⟩ := hrel
    by_cases hgo : q < L.length
    · obtain ⟨p, hp⟩ : ∃ p, L[q]? = some p := ⟨L[q], by simp [hgo]⟩
      obtain ⟨A, rfl, c0, c1, c2, c3, c4, c5⟩ := (HL.out.below hbr) q p hp
      obtain ⟨A', rfl, d0, d1, d2, d3, d4, d5⟩ := (HM.out.below hbr) q p hp
      clear hp
      go_wp2_with fail
      go_region
      go_wp2_with fail
      exact ⟨⟨q + 1, by omega, by simp, hbr.drew⟩, by simp [intOf]; omega⟩
    · go_wp2_with fail
      go_ret
      exact ⟨rfl, hbr⟩

set_option maxHeartbeats 3200000 in
set_option maxRecDepth 100000 in
theorem sameLedger_same (T : List TK) (P : List TP) (V : List Int) (o1 o2 o3 q1 q2 q3 : Option Addr) (c1 c2 c3 d1 d2 d3 : Nat) (w : World) (h1 : TiksAt w o1 T) (h2 : TapsAt w o2 P) (h3 : IntsAt w o3 V) (g1 : TiksAt w q1 T) (g2 : TapsAt w q2 P) (g3 : IntsAt w q3 V)
    (l1 : T.length ≤ 100) (l2 : P.length ≤ 100) (l3 : V.length ≤ 100) :
    Calls Try.prog 19 #[lg o1 o2 o3 T.length c1 P.length c2 V.length c3, lg q1 q2 q3 T.length d1 P.length d2 V.length d3] w fun e w' => e = .returned (.bool true) ∧ Below w.heap.size w w' := by
  have HA := hide (fun W (h : TiksAt W o1 T) (g : TiksAt W q1 T) => sameTickets_same T o1 q1 c1 d1 W h g l1)
  have HB := hide (fun W (h : TapsAt W o2 P) (g : TapsAt W q2 P) => sameTaps_same P o2 q2 c2 d2 W h g l2)
  have HC := hide (fun W (h : IntsAt W o3 V) (g : IntsAt W q3 V) => sameInts_same V o3 q3 c3 d3 W h g l3)
  have H1 := hide (And.intro h1 g1)
  have H2 := hide (And.intro h2 g2)
  have H3 := hide (And.intro h3 g3)
  clear h1 h2 h3 g1 g2 g3
  go_enter Try.func19, Try.ntmps19
  go_wp2_with fail
  have hb0 : Below w.heap.size w ((w.alloc (cL o1 o2 o3 T.length c1 P.length c2 V.length c3 26)).alloc (cL q1 q2 q3 T.length d1 P.length d2 V.length d3 26)) := ((Below.refl _ _).alloc (Nat.le_refl _) _).alloc (by simp) _
  have HL1 : Hid (Led3 ((w.alloc (cL o1 o2 o3 T.length c1 P.length c2 V.length c3 26)).alloc (cL q1 q2 q3 T.length d1 P.length d2 V.length d3 26)) w.heap.size o1 o2 o3 T.length c1 P.length c2 V.length c3) := hide ⟨by simp [go_sem], by simp [go_sem], by simp [go_sem]⟩
  have HL2 : Hid (Led3 ((w.alloc (cL o1 o2 o3 T.length c1 P.length c2 V.length c3 26)).alloc (cL q1 q2 q3 T.length d1 P.length d2 V.length d3 26)) (w.heap.size + 1) q1 q2 q3 T.length d1 P.length d2 V.length d3) := hide ⟨by simp [go_sem], by simp [go_sem], by simp [go_sem]⟩
  have HB0 := hide hb0
  clear hb0
  generalize (w.alloc (cL o1 o2 o3 T.length c1 P.length c2 V.length c3 26)).alloc (cL q1 q2 q3 T.length d1 P.length d2 V.length d3 26) = w1 at *
  refine (HA.out _ (H1.out.1.below HB0.out) (H1.out.2.below HB0.out)).mono ?_
  rintro e w2 ⟨rfl, hb2⟩
  have HB2 := hide (HB0.out.trans (hb2.mono HB0.out.size))
  have HL3 := hide (HL1.out.below hb2 HL1.out.lt)
  have HL4 := hide (HL2.out.below hb2 HL2.out.lt)
  clear hb2 HL1 HL2 HB0
  obtain ⟨x0, x1, x2⟩ := HL3.out
  obtain ⟨y0, y1, y2⟩ := HL4.out
  go_wp2_with fail
  refine (HB.out _ (H2.out.1.below HB2.out) (H2.out.2.below HB2.out)).mono ?_
  rintro e w3 ⟨rfl, hb3⟩
  have HB3 := hide (HB2.out.trans (hb3.mono HB2.out.size))
  have HL5 := hide (HL3.out.below hb3 HL3.out.lt)
  have HL6 := hide (HL4.out.below hb3 HL4.out.lt)
  clear hb3 HL3 HL4 HB2 x0 x1 x2 y0 y1 y2
  obtain ⟨x0, x1, x2⟩ := HL5.out
  obtain ⟨y0, y1, y2⟩ := HL6.out
  go_wp2_with fail
  refine (HC.out _ (H3.out.1.below HB3.out) (H3.out.2.below HB3.out)).mono ?_
  rintro e w4 ⟨rfl, hb4⟩
  have HB4 := hide (HB3.out.trans (hb4.mono HB3.out.size))
  clear hb4 HL5 HL6 HB3 x0 x1 x2 y0 y1 y2
  go_wp2_with fail
  go_ret
  exact ⟨rfl, HB4.out⟩

def mO : List TP := [⟨1, 1, 1, 9, 1⟩, ⟨1, 0, 2, 9, 1⟩, ⟨1, 0, 1, 5, 1⟩]
def mQ : List TP := [⟨1, 0, 1, 5, 1⟩, ⟨1, 0, 2, 9, 1⟩, ⟨1, 1, 1, 9, 1⟩]
def mM : List TP := [⟨4, 2, 1, 30, 1⟩, ⟨1, 2, 2, 15, 1⟩, ⟨9, 2, 3, 70, 1⟩]
def mS : List TP := [⟨1, 2, 2, 15, 1⟩, ⟨1, 0, 1, 20, 1⟩, ⟨4, 2, 1, 30, 1⟩, ⟨1, 1, 1, 60, 1⟩, ⟨9, 2, 3, 70, 1⟩]
def mP : List TP := [⟨1, 2, 2, 15, 1⟩, ⟨1, 0, 1, 20, 1⟩, ⟨4, 2, 1, 30, 1⟩, ⟨1, 1, 1, 60, 1⟩]
def mD : List TP := [⟨9, 2, 3, 70, 1⟩]
def mV : List Int := (bldA bookT mS [] [] []).2.2.1

theorem m_e : ordE mO = 0 := by decide +kernel
theorem m_q : ordR mO = mQ := by
  rw [ordR, if_pos m_e]
  exact (srt_eq (by simp [Ord, mQ, befP]) (show mQ.Perm mO from List.reverse_perm mO) (by simp [DistP, mO])).symm
theorem m_s : srt (bookP ++ mM) = mS := by
  have hp : mS.Perm (bookP ++ mM) := by
    show [_, _, _, _, _].Perm [_, _, _, _, _]
    refine (List.Perm.swap _ _ _).trans (List.Perm.cons _ ?_)
    refine List.Perm.trans (List.Perm.cons _ (List.Perm.swap _ _ _)) ?_
    refine (List.Perm.swap _ _ _).trans (List.Perm.cons _ ?_)
    exact List.Perm.swap _ _ _
  exact (srt_eq (by simp [Ord, mS, befP]) hp (by simp [DistP, bookP, mM])).symm
theorem m_b : intoB bookT bookP mM = (0, mP, mV, mD) := by
  rw [intoB, m_s]
  rfl
theorem m_c : chkL bookT bookP bookV = 0 := by decide +kernel
theorem m_o : ordE (bookP ++ mM) = 0 := by decide +kernel
theorem m_i : intoE bookT bookP bookV mM = 0 := by
  rw [intoE, if_pos m_c, if_neg (by decide), if_pos m_o, m_b]
theorem m_p : intoP bookT bookP bookV mM = mP := by rw [intoP, if_pos m_i, m_b]
theorem m_v : intoV bookT bookP bookV mM = mV := by rw [intoV, if_pos m_i, m_b]
theorem m_d : intoD bookT bookP bookV mM = mD := by rw [intoD, if_pos m_i, m_b]
theorem m_t : intoT bookT bookP bookV mM = bookT := by rw [intoT, if_pos m_i]
theorem m_vv : mV = [1, 2, 1, 2] := by decide +kernel
set_option maxHeartbeats 6400000 in
set_option maxRecDepth 100000 in
theorem mergeBegun_any (w : World) : Calls Try.prog 7 #[] w fun e w' => e = .returned (.bool true) ∧ Below w.heap.size w w' := by
  have HB := hide (Below.refl w.heap.size w)
  go_enter Try.func7, Try.ntmps7
  go_wp2_with fail
  refine (at_any _ _ _ _ _).mono ?_
  rintro e w1 ⟨rfl, hb⟩
  have HB' := hide (HB.out.trans (hb.mono HB.out.size))
  clear HB
  have HB := HB'
  clear HB'
  clear hb
  go_wp2_with fail
  refine (at_any _ _ _ _ _).mono ?_
  rintro e w2 ⟨rfl, hb⟩
  have HB' := hide (HB.out.trans (hb.mono HB.out.size))
  clear HB
  have HB := HB'
  clear HB'
  clear hb
  go_wp2_with fail
  refine (at_any _ _ _ _ _).mono ?_
  rintro e w3 ⟨rfl, hb⟩
  have HB' := hide (HB.out.trans (hb.mono HB.out.size))
  clear HB
  have HB := HB'
  clear HB'
  clear hb
  go_wp2_with fail
  have hb := (Below.refl w3.heap.size w3).alloc (Nat.le_refl _) (.cells #[.int .i64 1, .int .i64 1, .int .i64 1, .int .i64 9, .int .i64 1, .int .i64 1, .int .i64 0, .int .i64 2, .int .i64 9, .int .i64 1, .int .i64 1, .int .i64 0, .int .i64 1, .int .i64 5, .int .i64 1] 28)
  have HO : Hid (TapsV (w3.alloc (.cells #[.int .i64 1, .int .i64 1, .int .i64 1, .int .i64 9, .int .i64 1, .int .i64 1, .int .i64 0, .int .i64 2, .int .i64 9, .int .i64 1, .int .i64 1, .int .i64 0, .int .i64 1, .int .i64 5, .int .i64 1] 28)) (.slice (some ⟨w3.heap.size, 0, none⟩) 3 3) mO) :=
    hide (tapsV_own (base := 0) (n := 3) ⟨rfl, .inr ⟨w3.heap.size, 3, _, rfl, Nat.zero_le _, heap_alloc_new _ _, Nat.le_refl _, by decide, rfl, rfl⟩⟩)
  have HB' := hide (HB.out.trans (hb.mono HB.out.size))
  clear HB
  have HB := HB'
  clear HB'
  clear hb
  generalize w3.alloc (.cells #[.int .i64 1, .int .i64 1, .int .i64 1, .int .i64 9, .int .i64 1, .int .i64 1, .int .i64 0, .int .i64 2, .int .i64 9, .int .i64 1, .int .i64 1, .int .i64 0, .int .i64 1, .int .i64 5, .int .i64 1] 28) = w4 at *
  refine (order_any (some ⟨w3.heap.size, 0, none⟩) 3 mO _ HO.out.eqs.2.1 (by decide) (by simp)).mono ?_
  rintro e w5 ⟨⟨oo, no, co, rfl, hov, -⟩, hb⟩
  rw [m_e]
  rw [m_q] at hov
  obtain ⟨rfl, hov, -, -⟩ := hov.eqs
  clear HO
  have HB' := hide (HB.out.trans (hb.mono HB.out.size))
  clear HB
  have HB := HB'
  clear HB'
  clear hb
  have HQ := hide hov
  clear hov
  clear hov
  rw [show mQ.length = 3 from rfl]
  go_wp2_with fail
  refine (book_any _).mono ?_
  rintro e w6 ⟨⟨vb, rfl, hvb⟩, hb⟩
  have HQ' := hide (HQ.out.below hb)
  clear HQ
  have HQ := HQ'
  clear HQ'
  have HB' := hide (HB.out.trans (hb.mono HB.out.size))
  clear HB
  have HB := HB'
  clear HB'
  clear hb
  obtain ⟨ob1, cb1, ob2, cb2, ob3, cb3, rfl, -⟩ := hvb.opened
  have HBk := hide hvb
  clear hvb
  go_wp2_with fail
  refine (at_any _ _ _ _ _).mono ?_
  rintro e w7 ⟨rfl, hb⟩
  have HQ' := hide (HQ.out.below hb)
  have HBk' := hide (HBk.out.below hb)
  clear HQ
  have HQ := HQ'
  clear HQ'
  clear HBk
  have HBk := HBk'
  clear HBk'
  have HB' := hide (HB.out.trans (hb.mono HB.out.size))
  clear HB
  have HB := HB'
  clear HB'
  clear hb
  go_wp2_with fail
  refine (at_any _ _ _ _ _).mono ?_
  rintro e w8 ⟨rfl, hb⟩
  have HQ' := hide (HQ.out.below hb)
  have HBk' := hide (HBk.out.below hb)
  clear HQ
  have HQ := HQ'
  clear HQ'
  clear HBk
  have HBk := HBk'
  clear HBk'
  have HB' := hide (HB.out.trans (hb.mono HB.out.size))
  clear HB
  have HB := HB'
  clear HB'
  clear hb
  go_wp2_with fail
  refine (at_any _ _ _ _ _).mono ?_
  rintro e w9 ⟨rfl, hb⟩
  have HQ' := hide (HQ.out.below hb)
  have HBk' := hide (HBk.out.below hb)
  clear HQ
  have HQ := HQ'
  clear HQ'
  clear HBk
  have HBk := HBk'
  clear HBk'
  have HB' := hide (HB.out.trans (hb.mono HB.out.size))
  clear HB
  have HB := HB'
  clear HB'
  clear hb
  go_wp2_with fail
  have hb := (Below.refl w9.heap.size w9).alloc (Nat.le_refl _) (.cells #[.int .i64 4, .int .i64 2, .int .i64 1, .int .i64 30, .int .i64 1, .int .i64 1, .int .i64 2, .int .i64 2, .int .i64 15, .int .i64 1, .int .i64 9, .int .i64 2, .int .i64 3, .int .i64 70, .int .i64 1] 28)
  have HM : Hid (TapsV (w9.alloc (.cells #[.int .i64 4, .int .i64 2, .int .i64 1, .int .i64 30, .int .i64 1, .int .i64 1, .int .i64 2, .int .i64 2, .int .i64 15, .int .i64 1, .int .i64 9, .int .i64 2, .int .i64 3, .int .i64 70, .int .i64 1] 28)) (.slice (some ⟨w9.heap.size, 0, none⟩) 3 3) mM) :=
    hide (tapsV_own (base := 0) (n := 3) ⟨rfl, .inr ⟨w9.heap.size, 3, _, rfl, Nat.zero_le _, heap_alloc_new _ _, Nat.le_refl _, by decide, rfl, rfl⟩⟩)
  have HQ' := hide (HQ.out.below hb)
  have HBk' := hide (HBk.out.below hb)
  clear HQ
  have HQ := HQ'
  clear HQ'
  clear HBk
  have HBk := HBk'
  clear HBk'
  have HB' := hide (HB.out.trans (hb.mono HB.out.size))
  clear HB
  have HB := HB'
  clear HB'
  clear hb
  generalize w9.alloc (.cells #[.int .i64 4, .int .i64 2, .int .i64 1, .int .i64 30, .int .i64 1, .int .i64 1, .int .i64 2, .int .i64 2, .int .i64 15, .int .i64 1, .int .i64 9, .int .i64 2, .int .i64 3, .int .i64 70, .int .i64 1] 28) = w10 at *
  refine (into_any bookT bookP bookV mM ob1 ob2 ob3 (some ⟨w9.heap.size, 0, none⟩) cb1 cb2 cb3 3 _ HBk.out book_lens HM.out.eqs.2.1 (by decide) (by simp)).mono ?_
  rintro e w11 ⟨⟨lv, od, nd, cd, rfl, hln, hod, -⟩, hb⟩
  rw [m_i]
  rw [m_t, m_p, m_v] at hln
  rw [m_d] at hod
  obtain ⟨rfl, hod, -, -⟩ := hod.eqs
  clear HM HBk
  have HQ' := hide (HQ.out.below hb)
  clear HQ
  have HQ := HQ'
  clear HQ'
  have HB' := hide (HB.out.trans (hb.mono HB.out.size))
  clear HB
  have HB := HB'
  clear HB'
  clear hb
  have HD := hide hod
  clear hod
  clear hod
  rw [show mD.length = 1 from rfl]
  obtain ⟨v1, v2, v3, rfl, ⟨⟨a1, x1, rfl, -, -⟩, -⟩, ⟨⟨a2, x2, rfl, -, -⟩, -⟩, ⟨⟨a3, x3, rfl, hv3, -⟩, -⟩⟩ := hln
  rw [m_vv] at hv3
  have HV := hide hv3
  clear hv3
  rw [show mP.length = 4 from rfl, show mV.length = 4 from rfl, show bookT.length = 2 from rfl]
  go_wp2_with fail
  have hb := (Below.refl w11.heap.size w11).alloc (Nat.le_refl _) (.cells #[.slice a1 2 x1, .slice a2 4 x2, .slice a3 4 x3] 26)
  have HGa := hide (heap_alloc_new w11 (.cells #[.slice a1 2 x1, .slice a2 4 x2, .slice a3 4 x3] 26))
  have HQ' := hide (HQ.out.below hb)
  have HD' := hide (HD.out.below hb)
  have HV' := hide (HV.out.below hb)
  clear HQ
  have HQ := HQ'
  clear HQ'
  clear HD
  have HD := HD'
  clear HD'
  clear HV
  have HV := HV'
  clear HV'
  have HB' := hide (HB.out.trans (hb.mono HB.out.size))
  clear HB
  have HB := HB'
  clear HB'
  clear hb
  generalize w11.alloc (.cells #[.slice a1 2 x1, .slice a2 4 x2, .slice a3 4 x3] 26) = w12 at *
  refine (at_any _ _ _ _ _).mono ?_
  rintro e w13 ⟨rfl, hb⟩
  have HQ' := hide (HQ.out.below hb)
  have HD' := hide (HD.out.below hb)
  have HV' := hide (HV.out.below hb)
  have HGa' := hide (at_below HGa.out hb)
  clear HQ
  have HQ := HQ'
  clear HQ'
  clear HD
  have HD := HD'
  clear HD'
  clear HV
  have HV := HV'
  clear HV'
  clear HGa
  have HGa := HGa'
  clear HGa'
  have HB' := hide (HB.out.trans (hb.mono HB.out.size))
  clear HB
  have HB := HB'
  clear HB'
  clear hb
  go_wp2_with fail
  refine (at_any _ _ _ _ _).mono ?_
  rintro e w14 ⟨rfl, hb⟩
  have HQ' := hide (HQ.out.below hb)
  have HD' := hide (HD.out.below hb)
  have HV' := hide (HV.out.below hb)
  have HGa' := hide (at_below HGa.out hb)
  clear HQ
  have HQ := HQ'
  clear HQ'
  clear HD
  have HD := HD'
  clear HD'
  clear HV
  have HV := HV'
  clear HV'
  clear HGa
  have HGa := HGa'
  clear HGa'
  have HB' := hide (HB.out.trans (hb.mono HB.out.size))
  clear HB
  have HB := HB'
  clear HB'
  clear hb
  go_wp2_with fail
  refine (at_any _ _ _ _ _).mono ?_
  rintro e w15 ⟨rfl, hb⟩
  have HQ' := hide (HQ.out.below hb)
  have HD' := hide (HD.out.below hb)
  have HV' := hide (HV.out.below hb)
  have HGa' := hide (at_below HGa.out hb)
  clear HQ
  have HQ := HQ'
  clear HQ'
  clear HD
  have HD := HD'
  clear HD'
  clear HV
  have HV := HV'
  clear HV'
  clear HGa
  have HGa := HGa'
  clear HGa'
  have HB' := hide (HB.out.trans (hb.mono HB.out.size))
  clear HB
  have HB := HB'
  clear HB'
  clear hb
  go_wp2_with fail
  have hb := (Below.refl w15.heap.size w15).alloc (Nat.le_refl _) (.cells #[.int .i64 1, .int .i64 0, .int .i64 1, .int .i64 5, .int .i64 1, .int .i64 1, .int .i64 0, .int .i64 2, .int .i64 9, .int .i64 1, .int .i64 1, .int .i64 1, .int .i64 1, .int .i64 9, .int .i64 1] 28)
  have HN : Hid (TapsV (w15.alloc (.cells #[.int .i64 1, .int .i64 0, .int .i64 1, .int .i64 5, .int .i64 1, .int .i64 1, .int .i64 0, .int .i64 2, .int .i64 9, .int .i64 1, .int .i64 1, .int .i64 1, .int .i64 1, .int .i64 9, .int .i64 1] 28)) (.slice (some ⟨w15.heap.size, 0, none⟩) 3 3) mQ) :=
    hide (tapsV_own (base := 0) (n := 3) ⟨rfl, .inr ⟨w15.heap.size, 3, _, rfl, Nat.zero_le _, heap_alloc_new _ _, Nat.le_refl _, by decide, rfl, rfl⟩⟩)
  have HQ' := hide (HQ.out.below hb)
  have HD' := hide (HD.out.below hb)
  have HV' := hide (HV.out.below hb)
  have HGa' := hide (at_below HGa.out hb)
  clear HQ
  have HQ := HQ'
  clear HQ'
  clear HD
  have HD := HD'
  clear HD'
  clear HV
  have HV := HV'
  clear HV'
  clear HGa
  have HGa := HGa'
  clear HGa'
  have HB' := hide (HB.out.trans (hb.mono HB.out.size))
  clear HB
  have HB := HB'
  clear HB'
  clear hb
  generalize w15.alloc (.cells #[.int .i64 1, .int .i64 0, .int .i64 1, .int .i64 5, .int .i64 1, .int .i64 1, .int .i64 0, .int .i64 2, .int .i64 9, .int .i64 1, .int .i64 1, .int .i64 1, .int .i64 1, .int .i64 9, .int .i64 1] 28) = w16 at *
  refine (sameTaps_same mQ oo (some ⟨w15.heap.size, 0, none⟩) co 3 _ HQ.out HN.out.eqs.2.1 (by decide)).mono ?_
  rintro e w17 ⟨rfl, hb⟩
  clear HN
  have HQ' := hide (HQ.out.below hb)
  have HD' := hide (HD.out.below hb)
  have HV' := hide (HV.out.below hb)
  have HGa' := hide (at_below HGa.out hb)
  clear HQ
  have HQ := HQ'
  clear HQ'
  clear HD
  have HD := HD'
  clear HD'
  clear HV
  have HV := HV'
  clear HV'
  clear HGa
  have HGa := HGa'
  clear HGa'
  have HB' := hide (HB.out.trans (hb.mono HB.out.size))
  clear HB
  have HB := HB'
  clear HB'
  clear hb
  clear HQ
  have b1 := cell_of_row _ _ 1 _ _ _ HGa.out
  have b2 := cell_of_row _ _ 2 _ _ _ HGa.out
  obtain ⟨A3, rfl, hA3⟩ := HV.out 1 2 rfl
  have hA4 : w17.cell? ⟨A3.block, A3.off + 1, none⟩ = some (.int .i64 2) := by rw [← hA3]; first | rfl | simp [Addr.add]
  go_wp2_with fail
  clear b1 b2 hA3 hA4 HGa HV
  refine (at_any _ _ _ _ _).mono ?_
  rintro e w18 ⟨rfl, hb⟩
  have HD' := hide (HD.out.below hb)
  clear HD
  have HD := HD'
  clear HD'
  have HB' := hide (HB.out.trans (hb.mono HB.out.size))
  clear HB
  have HB := HB'
  clear HB'
  clear hb
  go_wp2_with fail
  have hb := (Below.refl w18.heap.size w18).alloc (Nat.le_refl _) (.cells #[.int .i64 9, .int .i64 2, .int .i64 3, .int .i64 70, .int .i64 1] 28)
  have HN : Hid (TapsV (w18.alloc (.cells #[.int .i64 9, .int .i64 2, .int .i64 3, .int .i64 70, .int .i64 1] 28)) (.slice (some ⟨w18.heap.size, 0, none⟩) 1 1) mD) :=
    hide (tapsV_own (base := 0) (n := 1) ⟨rfl, .inr ⟨w18.heap.size, 1, _, rfl, Nat.zero_le _, heap_alloc_new _ _, Nat.le_refl _, by decide, rfl, rfl⟩⟩)
  have HD' := hide (HD.out.below hb)
  clear HD
  have HD := HD'
  clear HD'
  have HB' := hide (HB.out.trans (hb.mono HB.out.size))
  clear HB
  have HB := HB'
  clear HB'
  clear hb
  generalize w18.alloc (.cells #[.int .i64 9, .int .i64 2, .int .i64 3, .int .i64 70, .int .i64 1] 28) = w19 at *
  refine (sameTaps_same mD od (some ⟨w18.heap.size, 0, none⟩) cd 1 _ HD.out HN.out.eqs.2.1 (by decide)).mono ?_
  rintro e w20 ⟨rfl, hb⟩
  clear HN
  have HD' := hide (HD.out.below hb)
  clear HD
  have HD := HD'
  clear HD'
  have HB' := hide (HB.out.trans (hb.mono HB.out.size))
  clear HB
  have HB := HB'
  clear HB'
  clear hb
  go_wp2_with fail
  go_ret
  exact ⟨rfl, HB.out⟩

theorem enterOfF {w : World} {o1 o2 o3 : Option Addr} {c1 c2 c3 : Nat} {T : List TK} {P : List TP} {V : List Int} (hL : LedV w (lg o1 o2 o3 T.length c1 P.length c2 V.length c3) T P V) (h0 : chkL T P V = 0) (a g s m z : Int) : Calls Try.prog 50 #[lg o1 o2 o3 T.length c1 P.length c2 V.length c3, tp a g s m z] w fun e w' =>
    (∃ v', e = .returned (.tuple #[v', .int .i64 (enterV T P V ⟨a, g, s, m, z⟩).1, .int .i64 (enterV T P V ⟨a, g, s, m, z⟩).2]) ∧ (if (enterV T P V ⟨a, g, s, m, z⟩).2 = 0 then LedM w.heap.size w' v' (.slice o1 T.length c1) (P ++ [(⟨a, g, s, m, z⟩ : TP)]) (V ++ [(enterV T P V ⟨a, g, s, m, z⟩).1]) else LedV w' v' [] [] [])) ∧ Below w.heap.size w w' := by
  obtain ⟨hLt, hLp, hLv⟩ := hL.parts3
  obtain ⟨-, hT, l1, -⟩ := hLt.eqs
  obtain ⟨-, hP, l2, hn2⟩ := hLp.eqs
  obtain ⟨-, hV, l3, hn3⟩ := hLv.eqs
  obtain ⟨r1, r2, r3, r4, r5⟩ := chkL_right h0
  have hti : ∀ y ∈ P, 0 ≤ y.m ∧ y.m ≤ 9999 := fun y hy => (chkP_right (a := y.a) (g := y.g) (s := y.s) (m := y.m) (z := y.z) (errP_all_chk r5 y hy)).2.2.2.1
  rcases enter_ways ⟨a, g, s, m, z⟩ h0 with ⟨h1, e⟩ | ⟨h1, h2, e⟩ | ⟨h1, k, x, hi, hx, hck, ⟨h3, e⟩ | ⟨h3, ⟨n, q, hn, hq, hm⟩, e⟩ | ⟨h3, hno, e⟩⟩
  · rw [e]
    simp only [if_neg h1]
    exact enterOf_tap T P V a g s m z o1 o2 o3 c1 c2 c3 w hT hP hV r1 r2 h1
  · rw [e]
    simp only [if_neg (show ¬ (5 : Int) = 0 by decide)]
    exact enterOf_none T P V a g s m z o1 o2 o3 c1 c2 c3 w hT hP hV r1 r2 h1 h2
  · rw [e]
    simp only [if_neg (show ¬ (6 : Int) = 0 by decide)]
    exact enterOf_twice T P V a g s m z o1 o2 o3 c1 c2 c3 w hT hP hV r1 r2 h1 k hi h3
  · rw [e]
    simp only [if_neg (show ¬ (4 : Int) = 0 by decide)]
    exact enterOf_early T P V a g s m z o1 o2 o3 c1 c2 c3 w hT hP hV r1 r2 h1 k hi h3 n q hn hq hm
  · rw [e]
    by_cases hJ : (judge x.k x.f x.t x.z x.r (many (P.zip V) a).2 (many (P.zip V) a).1 m z).2 = 0
    · rw [if_neg (by simpa using hJ)]
      by_cases h60 : P.length = 60
      · rw [if_pos h60]
        simp only [if_neg (show ¬ (2 : Int) = 0 by decide)]
        exact enterOf_full T P V a g s m z o1 o2 o3 c1 c2 c3 w hT hP hV r1 r2 r3 h1 k x hi hx hck hti h3 hno hJ h60
      · rw [if_neg h60]
        simp only [if_true]
        exact enterOf_okF T P V a g s m z o1 o2 o3 c1 c2 c3 w hT hP hV r1 r2 r3 h1 k x hi hx hck hti h3 hno l1 hn2 hn3 hJ h60
    · rw [if_pos hJ]
      simp only [if_neg hJ]
      exact enterOf_judged T P V a g s m z o1 o2 o3 c1 c2 c3 w hT hP hV r1 r2 r3 h1 k x hi hx hck hti h3 hno hJ

def befB (p q : TP) : Bool := decide (befP p q)

theorem befB_time {p q : TP} (h : (p.m != q.m) = true) : befB p q = decide (p.m < q.m) := by
  have h : p.m ≠ q.m := by simpa using h
  unfold befB
  apply decide_eq_decide.2
  unfold befP
  omega

theorem befB_gate {p q : TP} (h : (p.m != q.m) = false) (h' : (p.g != q.g) = true) : befB p q = decide (p.g < q.g) := by
  have h : p.m = q.m := by simpa using h
  have h' : p.g ≠ q.g := by simpa using h'
  unfold befB
  apply decide_eq_decide.2
  unfold befP
  omega

theorem befB_seq {p q : TP} (h : (p.m != q.m) = false) (h' : (p.g != q.g) = false) : befB p q = decide (p.s < q.s) := by
  have h : p.m = q.m := by simpa using h
  have h' : p.g = q.g := by simpa using h'
  unfold befB
  apply decide_eq_decide.2
  unfold befP
  omega

set_option maxHeartbeats 3200000 in
set_option maxRecDepth 100000 in
theorem isBefore_any (p q : TP) (w : World) : Calls Try.prog 22 #[tp p.a p.g p.s p.m p.z, tp q.a q.g q.s q.m q.z] w fun e w' => e = .returned (.bool (befB p q)) ∧ Below w.heap.size w w' := by
  have hb : Below w.heap.size w ((w.alloc (.cells #[.int .i64 p.a, .int .i64 p.g, .int .i64 p.s, .int .i64 p.m, .int .i64 p.z] 28)).alloc (.cells #[.int .i64 q.a, .int .i64 q.g, .int .i64 q.s, .int .i64 q.m, .int .i64 q.z] 28)) :=
    ((Below.refl _ _).alloc (Nat.le_refl _) _).alloc (by simp) _
  have HB := hide hb
  clear hb
  rcases hc1 : (p.m != q.m) with _ | _
  · rcases hc2 : (p.g != q.g) with _ | _
    · rw [befB_seq hc1 hc2]
      go_enter Try.func22, Try.ntmps22
      go_wp2_with fail
      go_ret
      exact ⟨rfl, HB.out⟩
    · rw [befB_gate hc1 hc2]
      go_enter Try.func22, Try.ntmps22
      go_wp2_with fail
      go_ret
      exact ⟨rfl, HB.out⟩
  · rw [befB_time hc1]
    go_enter Try.func22, Try.ntmps22
    go_wp2_with fail
    go_ret
    exact ⟨rfl, HB.out⟩

theorem cellsP_two (L M : List TP) (y x : TP) : cellsP (L ++ [y] ++ [x] ++ M) = cellsP L ++ ([.int .i64 y.a, .int .i64 y.g, .int .i64 y.s, .int .i64 y.m, .int .i64 y.z, .int .i64 x.a, .int .i64 x.g, .int .i64 x.s, .int .i64 x.m, .int .i64 x.z] ++ cellsP M) := by
  simp [cellsP]

theorem swap_tap (T : List TP) (x y : TP) (k : Nat) (hk : T[k]? = some y) :
    (((((((((((cellsP (T.take (k + 1) ++ [x] ++ T.drop (k + 1))).set ((k + 1) * 5) (.int .i64 y.a)).set ((k + 1) * 5 + 1) (.int .i64 y.g)).set ((k + 1) * 5 + 2) (.int .i64 y.s)).set ((k + 1) * 5 + 3) (.int .i64 y.m)).set ((k + 1) * 5 + 4) (.int .i64 y.z)).set (k * 5) (.int .i64 x.a)).set (k * 5 + 1) (.int .i64 x.g)).set (k * 5 + 2) (.int .i64 x.s)).set (k * 5 + 3) (.int .i64 x.m)).set (k * 5 + 4) (.int .i64 x.z)) = cellsP (T.take k ++ [x] ++ T.drop k) := by
  have hlt := (List.getElem?_eq_some_iff.1 hk).1
  have h1 : T.take (k + 1) = T.take k ++ [y] := by rw [List.take_add_one, hk]; rfl
  have h2 : T.drop k = y :: T.drop (k + 1) := by
    have := List.drop_eq_getElem_cons hlt
    rw [this]
    congr 1
    exact (List.getElem?_eq_some_iff.1 hk).2
  have hl : (T.take k).length = k := by rw [List.length_take]; omega
  rw [h1, h2, cellsP_two, show T.take k ++ [x] ++ y :: T.drop (k + 1) = T.take k ++ [x] ++ [y] ++ T.drop (k + 1) by simp, cellsP_two]
  have hA : (cellsP (T.take k)).length = k * 5 := by rw [cellsP_len, hl]
  generalize cellsP (T.take k) = A at *
  generalize cellsP (T.drop (k + 1)) = M at *
  have e : ∀ (Y : List Value) (j : Nat) (v : Value), (A ++ Y).set (k * 5 + j) v = A ++ Y.set j v := by
    intro Y j v
    rw [List.set_append_right _ _ (by omega), hA]
    congr 2
    omega
  have e0 : ∀ (Y : List Value) (v : Value), (A ++ Y).set (k * 5) v = A ++ Y.set 0 v := fun Y v => e Y 0 v
  have s0 : (k + 1) * 5 = k * 5 + 5 := by omega
  have s1 : (k + 1) * 5 + 1 = k * 5 + 6 := by omega
  have s2 : (k + 1) * 5 + 2 = k * 5 + 7 := by omega
  have s3 : (k + 1) * 5 + 3 = k * 5 + 8 := by omega
  have s4 : (k + 1) * 5 + 4 = k * 5 + 9 := by omega
  rw [s1, s2, s3, s4, s0, e, e, e, e, e, e0, e, e, e, e]
  simp

theorem tap_at (T : List TP) (x : TP) (q : Nat) (hq : q ≤ T.length) : ∀ j, j < 5 → (cellsP (T.take q ++ [x] ++ T.drop q))[q * 5 + j]? = [Value.int .i64 x.a, .int .i64 x.g, .int .i64 x.s, .int .i64 x.m, .int .i64 x.z][j]? := by
  intro j hj
  have hl : (T.take q).length = q := by rw [List.length_take]; omega
  exact cellsP_get _ q x (by rw [List.append_assoc, List.getElem?_append_right (by omega), hl]; simp) j hj

theorem tap_before (T : List TP) (x y : TP) (q : Nat) (hy : T[q]? = some y) : ∀ j, j < 5 → (cellsP (T.take (q + 1) ++ [x] ++ T.drop (q + 1)))[q * 5 + j]? = [Value.int .i64 y.a, .int .i64 y.g, .int .i64 y.s, .int .i64 y.m, .int .i64 y.z][j]? := by
  intro j hj
  have hlt := (List.getElem?_eq_some_iff.1 hy).1
  refine cellsP_get _ q y ?_ j hj
  rw [List.append_assoc, List.getElem?_append_left (by rw [List.length_take]; omega), List.getElem?_take, if_pos (by omega), hy]

theorem own_addrP (g k : Nat) : (⟨g, 0, none⟩ : Addr).add k = ⟨g, k, none⟩ := by
  by_cases h : k = 0
  · subst h; simp [Addr.add]
  · simp [Addr.add, h]

theorem own_formP {w : World} {base n : Nat} {e : TypeId} {size : Nat} {v : Value} {xs : List Value} (h : w.ownsRow base e size v n xs) (hn : 0 < n) : ∃ g c, v = .slice (some ⟨g, 0, none⟩) n c ∧ base ≤ g ∧ n ≤ c := by
  have hl := h.lt
  rcases h.2 with ⟨-, h0⟩ | ⟨g, c, cur, rfl, h1, h2, h3, h4⟩
  · omega
  · exact ⟨g, c, rfl, (hl g rfl).1, h3⟩

theorem dist_snoc {R : List TP} {p : TP} (h : DistP R) (ht : twiceT R p = false) : DistP (R ++ [p]) := by
  refine List.pairwise_append.2 ⟨h, List.pairwise_singleton _ _, fun x hx y hy => ?_⟩
  obtain rfl : y = p := by simpa using hy
  intro hh
  have : twiceT R y = true := by
    unfold twiceT
    rw [List.any_eq_true]
    exact ⟨x, hx, by simp [hh.1, hh.2]⟩
  rw [ht] at this
  cases this

/-- one more, put where it belongs -/
theorem ins_srt {R : List TP} {p : TP} {q : Nat} (hd : DistP (R ++ [p])) (hq : q ≤ (srt R).length) (h1 : ∀ y, (srt R)[q]? = some y → befP p y) (h2 : ∀ y, 0 < q → (srt R)[q - 1]? = some y → ¬ befP p y) : (srt R).take q ++ [p] ++ (srt R).drop q = srt (R ++ [p]) := by
  obtain ⟨hR, -, hx⟩ := List.pairwise_append.1 hd
  have hS := srt_ord hR
  have hm : ∀ x ∈ srt R, ¬ (x.g = p.g ∧ x.s = p.s) := fun x hx' => hx x ((srt_perm R).mem_iff.1 hx') p (by simp)
  have hg := List.pairwise_iff_getElem.1 hS
  generalize hSS : srt R = S at *
  have ha : ∀ x ∈ S.take q, befP x p := by
    intro x hx'
    obtain ⟨i, hi, rfl⟩ := List.getElem_of_mem hx'
    rw [List.length_take] at hi
    rw [List.getElem_take]
    have hqs : q - 1 < S.length := by omega
    have hn := h2 S[q - 1] (by omega) (by simp [hqs])
    have hb : befP S[q - 1] p := by
      refine befP_total (fun h => hm S[q - 1] (List.getElem_mem _) h) hn
    rcases Nat.lt_or_ge i (q - 1) with h | h
    · exact befP_trans (hg i (q - 1) (by omega) hqs h) hb
    · obtain rfl : i = q - 1 := by omega
      exact hb
  have hb : ∀ y ∈ S.drop q, befP p y := by
    intro y hy
    obtain ⟨i, hi, rfl⟩ := List.getElem_of_mem hy
    rw [List.length_drop] at hi
    rw [List.getElem_drop]
    have hqs : q < S.length := by omega
    have h0 := h1 S[q] (by simp [hqs])
    rcases Nat.eq_zero_or_pos i with rfl | h
    · simpa using h0
    · exact befP_trans h0 (hg q (q + i) hqs (by omega) (by omega))
  have hO : Ord (S.take q ++ [p] ++ S.drop q) := by
    refine List.pairwise_append.2 ⟨List.pairwise_append.2 ⟨hS.sublist (List.take_sublist _ _), List.pairwise_singleton _ _, fun x hx' y hy => ?_⟩, hS.sublist (List.drop_sublist _ _), fun x hx' y hy => ?_⟩
    · obtain rfl : y = p := by simpa using hy
      exact ha x hx'
    · rcases List.mem_append.1 hx' with h | h
      · exact befP_trans (ha x h) (hb y hy)
      · obtain rfl : x = p := by simpa using h
        exact hb y hy
  refine srt_eq hO ?_ hd
  have hp : (S.take q ++ [p] ++ S.drop q).Perm (S.take q ++ S.drop q ++ [p]) := by
    rw [List.append_assoc, List.append_assoc]
    exact List.Perm.append_left _ List.perm_append_comm
  rw [List.take_append_drop] at hp
  exact hp.trans ((hSS ▸ srt_perm R).append_right [p])

theorem not_dist {L : List TP} {q : Nat} {p : TP} (hp : L[q]? = some p) (ht : twiceT (L.take q) p = true) : ¬ DistP L := by
  intro hd
  unfold twiceT at ht
  rw [List.any_eq_true] at ht
  obtain ⟨x, hx, hh⟩ := ht
  obtain ⟨i, hi, rfl⟩ := List.getElem_of_mem hx
  rw [List.length_take] at hi
  obtain ⟨hq, rfl⟩ := List.getElem?_eq_some_iff.1 hp
  have := List.pairwise_iff_getElem.1 hd i q (by omega) hq (by omega)
  rw [List.getElem_take] at hh
  simp at hh
  exact this hh

theorem ordE_twice {L : List TP} {q : Nat} {p : TP} (h72 : L.length ≤ 72) (hc : firstE (L.map chkT) = 0) (hp : L[q]? = some p) (ht : twiceT (L.take q) p = true) : ordE L = 6 ∧ ordR L = [] := by
  have hd : dupB L = true := by
    rcases h : dupB L with _ | _
    · exact absurd ((dupB_false L).1 h) (not_dist hp ht)
    · rfl
  have : ordE L = 6 := by rw [ordE, if_neg (by omega), if_pos hc, if_pos hd]
  exact ⟨this, by rw [ordR, this]; rfl⟩

theorem firstE_atT {L : List TP} {q : Nat} {p : TP} (hq : ∀ x ∈ L.take q, chkT x = 0) (hp : L[q]? = some p) (he : chkT p ≠ 0) : firstE (L.map chkT) = chkT p := by
  have hL : L = L.take q ++ p :: L.drop (q + 1) := by
    obtain ⟨h, rfl⟩ := List.getElem?_eq_some_iff.1 hp
    rw [← List.drop_eq_getElem_cons h, List.take_append_drop]
  have h0 := firstE_map_zero.2 hq
  generalize hA : L.take q = A at *
  rw [hL, List.map_append, List.map_cons]
  clear hL hA hq hp
  induction A with
  | nil => simp [firstE, he]
  | cons x A ih =>
    simp only [List.map_cons, firstE] at h0
    by_cases hx : chkT x = 0
    · rw [if_pos hx] at h0
      simp only [List.map_cons, List.cons_append, firstE, if_pos hx]
      exact ih h0
    · rw [if_neg hx] at h0
      exact absurd h0 hx

theorem ordE_bad {L : List TP} {q : Nat} {p : TP} (h72 : L.length ≤ 72) (hq : ∀ x ∈ L.take q, chkT x = 0) (hp : L[q]? = some p) (he : chkT p ≠ 0) : ordE L = chkT p ∧ ordR L = [] := by
  have h := firstE_atT hq hp he
  have : ordE L = chkT p := by rw [ordE, if_neg (by omega), h, if_neg he]
  exact ⟨this, by rw [ordR, this, if_neg he]⟩

theorem ordE_many {L : List TP} (h : 72 < L.length) : ordE L = 2 ∧ ordR L = [] := by
  have : ordE L = 2 := if_pos h
  exact ⟨this, by rw [ordR, this]; rfl⟩

set_option maxHeartbeats 12800000 in
set_option maxRecDepth 100000 in
theorem orderOf_any (o : Option Addr) (cap : Nat) (L : List TP) (w : World) (hL : TapsAt w o L) (hlen : L.length ≤ 9223372036854775807) :
    Calls Try.prog 14 #[.slice o L.length cap] w fun e w' => (∃ o' n c', e = .returned (.tuple #[.slice o' n c', .int .i64 (ordE L)]) ∧ TapsV w' (.slice o' n c') (ordR L) ∧ Fresh w.heap.size (.slice o' n c')) ∧ Below w.heap.size w w' := by
  obtain ⟨i0, hi, hz0, hz1, hz2⟩ := info_parts info32
  have HL := hide hL
  clear hL
  by_cases h72 : 72 < L.length
  · obtain ⟨e1, e2⟩ := ordE_many h72
    rw [e1, e2]
    have h72' : (72 : Int) < (L.length : Int) := by omega
    go_enter Try.func14, Try.ntmps14
    go_wp2_with fail
    refine bodyPost_ret (v := .tuple #[.slice none 0 0, .int .i64 2]) (by simp [results, Try.results14, go_sem]) rfl ⟨⟨none, 0, 0, rfl, tapsV_nilO _, fresh_nilO _⟩, Below.refl _ _⟩
  · have h72' : ¬ (72 : Int) < (L.length : Int) := by omega
    have HOr := hide (And.intro (fun q p (h1 : ∀ x ∈ L.take q, chkT x = 0) (h2 : L[q]? = some p) (h3 : chkT p ≠ 0) => ordE_bad (by omega) h1 h2 h3) (And.intro (fun q p (h0 : ∀ x ∈ L, chkT x = 0) (h1 : L[q]? = some p) (h2 : twiceT (L.take q) p = true) => ordE_twice (by omega) (firstE_map_zero.2 h0) h1 h2) (fun (h0 : ∀ x ∈ L, chkT x = 0) (h1 : DistP L) => ordE_zero (by omega) h0 h1)))
    go_enter Try.func14, Try.ntmps14
    go_wp2_with fail
    go_loopw [4, 5] (fun j _ wr => ∃ (q : Nat), q ≤ L.length ∧ j = .int .i64 q ∧ Hid (∀ x ∈ L.take q, chkT x = 0) ∧ Hid (Below w.heap.size w wr)) (fun j _ _ => L.length - (intOf j).toNat)
    case atStart => exact ⟨0, Nat.zero_le _, rfl, hide (fun x hx => by simp at hx), hide (Below.refl _ _)⟩
    case round =>
      obtain ⟨q, hq, rfl, HCk, HBr⟩ := hrel
      by_cases hgo : q < L.length
      · obtain ⟨p, hp⟩ : ∃ p, L[q]? = some p := ⟨L[q], by simp [hgo]⟩
        obtain ⟨A, rfl, c0, c1, c2, c3, c4⟩ := (HL.out.below HBr.out) q p hp
        have HX := hide hp
        clear hp
        go_wp2_with fail
        refine (checkTap_any _ _ _ _ _ _).mono ?_
        rintro e w1 ⟨rfl, hb⟩
        have HB1 := hide (HBr.out.trans (hb.mono HBr.out.size))
        clear hb HBr c0 c1 c2 c3 c4
        rcases hE : (chkP p.a p.g p.s p.m p.z != 0) with _ | _
        · have hE0 : chkP p.a p.g p.s p.m p.z = 0 := by simpa using hE
          rw [hE0]
          clear hE
          have HC2 : Hid (∀ x ∈ L.take (q + 1), chkT x = 0) := hide (fun x hx => by
            rw [List.take_add_one, HX.out] at hx
            rcases List.mem_append.1 hx with h | h
            · exact HCk.out x h
            · obtain rfl : x = p := by simpa using h
              exact hE0)
          clear hE0 HX HCk
          go_wp2_with fail
          exact ⟨⟨q + 1, by omega, by simp, HC2, HB1⟩, by simp [intOf]; omega⟩
        · have HEr := hide (HOr.out.1 q p HCk.out HX.out (by simpa [chkT] using hE))
          simp only [chkT] at HEr
          generalize chkP p.a p.g p.s p.m p.z = E at *
          clear HX HCk
          go_wp2_with fail
          refine bodyPost_ret (v := .tuple #[.slice none 0 0, .int .i64 E]) (by simp [results, Try.results14, go_sem]) rfl ⟨⟨none, 0, 0, by rw [HEr.out.1], by rw [HEr.out.2]; exact tapsV_nilO _, fresh_nilO _⟩, HB1.out⟩
      · obtain rfl : q = L.length := by omega
        have HCa : Hid (∀ x ∈ L, chkT x = 0) := hide (by have := HCk.out; rwa [List.take_length] at this)
        clear HCk
        go_wp2_with fail
        go_loopw [6, 7, 8] (fun v j _ wr => ∃ (q : Nat), q ≤ L.length ∧ j = .int .i64 q ∧ Hid (DistP (L.take q)) ∧ Hid (wr.ownsRow w.heap.size 28 5 v q (cellsP (srt (L.take q)))) ∧ Hid (Below w.heap.size w wr)) (fun _ j _ _ => L.length - (intOf j).toNat)
        case atStart => exact ⟨0, Nat.zero_le _, rfl, hide (by simp [DistP]), hide (by rw [List.take_zero, show srt [] = [] by simp [srt]]; exact World.ownsRow_nil _ _ _ _), HBr⟩
        case round =>
          obtain ⟨q, hq, rfl, HDi, hown, HBr⟩ := hrel
          by_cases hgo : q < L.length
          · obtain ⟨p, hp⟩ : ∃ p, L[q]? = some p := ⟨L[q], by simp [hgo]⟩
            obtain ⟨A, rfl, c0, c1, c2, c3, c4⟩ := (HL.out.below HBr.out) q p hp
            have HX := hide hp
            clear hp
            go_wp2_with fail
            refine (isTwice_any _ _ L q _ _ _ _ _ _ (HL.out.below HBr.out) (by omega) (by omega)).mono ?_
            rintro e w1 ⟨rfl, hb⟩
            have HB1 := hide (HBr.out.trans (hb.mono HBr.out.size))
            have HO1 := hide (ownsRow_below hown.out hb)
            clear hb HBr c0 c1 c2 c3 c4 hown
            rcases hE : twiceT (L.take q) p with _ | _
            · have HD2 := hide (dist_snoc HDi.out hE)
              obtain ⟨A', hA', c0, c1, c2, c3, c4⟩ := (HL.out.below HB1.out) q p HX.out
              cases hA'
              have hsl : (srt (L.take q)).length = q := by rw [srt_len, List.length_take]; omega
              have HN : Hid (∀ j u, [Value.int .i64 p.a, .int .i64 p.g, .int .i64 p.s, .int .i64 p.m, .int .i64 p.z][j]? = some u → (w1.alloc (cP p.a p.g p.s p.m p.z 28)).cell? ((⟨w1.heap.size, 0, none⟩ : Addr).add j) = some u) := hide (five_new w1 p.a p.g p.s p.m p.z 28)
              have hA : (A.add (q * 5)).block < w1.heap.size := World.block_lt_of_cell? w1 (A.add (q * 5)) c0
              go_wp2_with (at_builtin; refine wpList_append_own _ rfl _ _ 23 rfl w.heap.size 28 i0 _ 5 40 Try.underlying23 hi hz0 hz1 hz2 rfl (by decide) _ q _ rfl (HO1.out.alloc _) ⟨w1.heap.size, 0, none⟩ 1 1 [.int .i64 p.a, .int .i64 p.g, .int .i64 p.s, .int .i64 p.m, .int .i64 p.z] rfl rfl HN.out (by intro u hu; simp at hu; rcases hu with rfl | rfl | rfl | rfl | rfl <;> rfl) (by unfold maxLen; omega) (by omega) (by have := HB1.out.size; simp; omega) ?_; intro v1 w2 hown2 hgrow2 _; have HB2 := hide ((HB1.out.alloc HB1.out.size _).grown hgrow2 (by have := HB1.out.size; simp; omega) (fun k hk => (HO1.out.lt k hk).1)); obtain ⟨gg, cc, rfl, hg, hgc⟩ := own_formP hown2 (by omega); have HO2 := hide hown2; clear hown2 hgrow2)
              clear HN hA c0 c1 c2 c3 c4 HO1
              have HQ : Hid (w2.ownsRow w.heap.size 28 5 (.slice (some ⟨gg, 0, none⟩) (q + 1) cc) (q + 1) (cellsP ((srt (L.take q)).take q ++ [p] ++ (srt (L.take q)).drop q))) := by
                have h := HO2.out
                rw [← cellsP_snoc] at h
                refine hide ?_
                rw [List.take_of_length_le (by omega), List.drop_of_length_le (by omega), List.append_nil]
                exact h
              have HIn := hide (fun k (hk : k ≤ q) h1 h2 => ins_srt (R := L.take q) (p := p) (q := k) HD2.out (by omega) h1 h2)
              have HTk : Hid (L.take q ++ [p] = L.take (q + 1)) := hide (by rw [List.take_add_one, HX.out]; rfl)
              clear HO2 HB1 HX HDi hE
              generalize srt (L.take q) = S at *
              have hsl1 : S.length ≤ q := by omega
              have hsl2 : q ≤ S.length := by omega
              clear hsl
              go_loopw [8] (fun j wr => ∃ (k : Nat), k ≤ q ∧ j = .int .i64 k ∧ Hid (wr.ownsRow w.heap.size 28 5 (.slice (some ⟨gg, 0, none⟩) (q + 1) cc) (q + 1) (cellsP (S.take k ++ [p] ++ S.drop k))) ∧ Hid (∀ y, S[k]? = some y → befP p y) ∧ Hid (Below w.heap.size w wr)) (fun j _ => (intOf j).toNat)
              case atStart => exact ⟨q, Nat.le_refl _, by simp, HQ, hide (fun y hy => by rw [List.getElem?_eq_none (by omega)] at hy; cases hy), HB2⟩
              case round =>
                obtain ⟨k, hk, hj, hO, hG, HBr⟩ := hrel
                rcases k with _ | k
                · rw [show ((0 : Nat) : Int) = 0 from rfl] at hj
                  subst hj
                  have HSt := hide (HIn.out 0 (by omega) hG.out (fun y h => by omega))
                  clear HIn hG HQ HB2
                  have HB8 := hide HBr.out.drew
                  have HO8 := hide hO.out.drew
                  clear hO HBr
                  go_wp2_with fail
                  go_region
                  generalize wr.drew = w8 at *
                  have HO9 : Hid (w8.ownsRow w.heap.size 28 5 (.slice (some ⟨gg, 0, none⟩) (q + 1) cc) (q + 1) (cellsP (srt (L.take (q + 1))))) := hide (by have h := HO8.out; rw [HSt.out, HTk.out] at h; exact h)
                  have HD9 : Hid (DistP (L.take (q + 1))) := hide (by rw [← HTk.out]; exact HD2.out)
                  clear HO8 HSt
                  go_wp2_with fail
                  exact ⟨⟨q + 1, by omega, by simp, HD9, HO9, HB8⟩, by simp [intOf]; omega⟩
                · rw [show ((k + 1 : Nat) : Int) = (k : Int) + 1 by omega] at hj
                  subst hj
                  have hgt : (0 : Int) < (k : Int) + 1 := by omega
                  have hgd : decide ((0 : Int) < (k : Int) + 1) = true := decide_eq_true hgt
                  have hg0 : (0 : Int) ≤ (k : Int) + 1 := by omega
                  obtain ⟨y, hy⟩ : ∃ y, S[k]? = some y := ⟨S[k]'(by omega), by simp⟩
                  have HY := hide hy
                  have hl5 : (k + 1) * 5 + 4 < (q + 1) * 5 := by omega
                  have hadd1 := own_addrP gg ((k + 1) * 5)
                  have hadd0 := own_addrP gg (k * 5)
                  have hw1 : IntKind.i64.wrap (k : Int) = (k : Int) := by rw [IntKind.wrap_i64]; omega
                  have hn1 : ((k : Int) + 1).toNat = k + 1 := by omega
                  have hkq : (k : Int) < (q : Int) := by omega
                  have hkq1 : (k : Int) < (q : Int) + 1 := by omega
                  have cx := tap_at S p (k + 1) (by omega)
                  have cy := tap_before S p y k HY.out
                  have a0 : wr.cell? ⟨gg, (k + 1) * 5, none⟩ = some (.int .i64 p.a) := by rw [hO.out.cellAt _ (by omega)]; exact cx 0 (by decide)
                  have a1 : wr.cell? ⟨gg, (k + 1) * 5 + 1, none⟩ = some (.int .i64 p.g) := by rw [hO.out.cellAt _ (by omega)]; exact cx 1 (by decide)
                  have a2 : wr.cell? ⟨gg, (k + 1) * 5 + 2, none⟩ = some (.int .i64 p.s) := by rw [hO.out.cellAt _ (by omega)]; exact cx 2 (by decide)
                  have a3 : wr.cell? ⟨gg, (k + 1) * 5 + 3, none⟩ = some (.int .i64 p.m) := by rw [hO.out.cellAt _ (by omega)]; exact cx 3 (by decide)
                  have a4 : wr.cell? ⟨gg, (k + 1) * 5 + 4, none⟩ = some (.int .i64 p.z) := by rw [hO.out.cellAt _ (by omega)]; exact cx 4 (by decide)
                  have d0 : wr.cell? ⟨gg, k * 5, none⟩ = some (.int .i64 y.a) := by rw [hO.out.cellAt _ (by omega)]; exact cy 0 (by decide)
                  have d1 : wr.cell? ⟨gg, k * 5 + 1, none⟩ = some (.int .i64 y.g) := by rw [hO.out.cellAt _ (by omega)]; exact cy 1 (by decide)
                  have d2 : wr.cell? ⟨gg, k * 5 + 2, none⟩ = some (.int .i64 y.s) := by rw [hO.out.cellAt _ (by omega)]; exact cy 2 (by decide)
                  have d3 : wr.cell? ⟨gg, k * 5 + 3, none⟩ = some (.int .i64 y.m) := by rw [hO.out.cellAt _ (by omega)]; exact cy 3 (by decide)
                  have d4 : wr.cell? ⟨gg, k * 5 + 4, none⟩ = some (.int .i64 y.z) := by rw [hO.out.cellAt _ (by omega)]; exact cy 4 (by decide)
                  clear cx cy
                  clear HQ HB2
                  have m0 := cell_regrown a0
                  have m1 := cell_regrown a1
                  have m2 := cell_regrown a2
                  have m3 := cell_regrown a3
                  have m4 := cell_regrown a4
                  have n0 := cell_regrown d0
                  have n1 := cell_regrown d1
                  have n2 := cell_regrown d2
                  have n3 := cell_regrown d3
                  have n4 := cell_regrown d4
                  clear a0 a1 a2 a3 a4 d0 d1 d2 d3 d4 hy
                  rcases hbf : befB p y with _ | _
                  · have HSt := hide (HIn.out (k + 1) (by omega) hG.out (fun u _ hu => by
                      have h1 := HY.out
                      rw [Nat.add_sub_cancel] at hu
                      rw [h1] at hu
                      cases hu
                      exact of_decide_eq_false hbf))
                    have cB : ∀ d os, Calls Try.prog 22 #[tp p.a p.g p.s p.m p.z, tp y.a y.g y.s y.m y.z] (Sort.grow (redrawn wr d) os) fun e w'' => e = .returned (.bool false) ∧ ∃ p : Regrown, w'' = Sort.grow (redrawn wr p.d) p.os :=
                      fun d os => Calls.regrown_of (by have h := isBefore_any p y (Sort.grow (redrawn wr d) os); rw [hbf] at h; exact h)
                    clear hbf HIn hG
                    go_wp2_with fail
                    refine wp_region_quiet_below (by kernel_rfl) (by kernel_rfl) ?_
                    repeat (quiet_step (exact cB _ _))
                    refine wpQuiet_nil ?_
                    intro _ hw'
                    obtain ⟨⟨dq, osq⟩, hw''⟩ := hw'
                    subst hw''
                    have hbw := below_regrown wr dq osq
                    have HB8 := hide (HBr.out.trans (hbw.mono HBr.out.size))
                    have HO8 := hide (ownsRow_below hO.out hbw)
                    clear hbw hO HBr cB
                    clear m0 m1 m2 m3 m4 n0 n1 n2 n3 n4
                    generalize Sort.grow (redrawn wr dq) osq = w8 at *
                    have HO9 : Hid (w8.ownsRow w.heap.size 28 5 (.slice (some ⟨gg, 0, none⟩) (q + 1) cc) (q + 1) (cellsP (srt (L.take (q + 1))))) := hide (by have h := HO8.out; rw [HSt.out, HTk.out] at h; exact h)
                    have HD9 : Hid (DistP (L.take (q + 1))) := hide (by rw [← HTk.out]; exact HD2.out)
                    clear HO8 HSt
                    go_wp2_with fail
                    exact ⟨⟨q + 1, by omega, by simp, HD9, HO9, HB8⟩, by simp [intOf]; omega⟩
                  · have HBf : Hid (befP p y) := hide (of_decide_eq_true hbf)
                    have cB : ∀ d os, Calls Try.prog 22 #[tp p.a p.g p.s p.m p.z, tp y.a y.g y.s y.m y.z] (Sort.grow (redrawn wr d) os) fun e w'' => e = .returned (.bool true) ∧ ∃ p : Regrown, w'' = Sort.grow (redrawn wr p.d) p.os :=
                      fun d os => Calls.regrown_of (by have h := isBefore_any p y (Sort.grow (redrawn wr d) os); rw [hbf] at h; exact h)
                    clear hbf hG
                    go_wp2_with fail
                    refine wp_region_quiet_below (by kernel_rfl) (by kernel_rfl) ?_
                    repeat (quiet_step (exact cB _ _))
                    refine wpQuiet_nil ?_
                    intro _ hw'
                    obtain ⟨⟨dq, osq⟩, hw''⟩ := hw'
                    subst hw''
                    have hbw := below_regrown wr dq osq
                    have HB8 := hide (HBr.out.trans (hbw.mono HBr.out.size))
                    have HO8 := hide (ownsRow_below hO.out hbw)
                    clear hbw hO HBr cB
                    clear m0 m1 m2 m3 m4 n0 n1 n2 n3 n4
                    generalize Sort.grow (redrawn wr dq) osq = w8 at *
                    have cx := tap_at S p (k + 1) (by omega)
                    have cy := tap_before S p y k HY.out
                    have a0 : w8.cell? ⟨gg, (k + 1) * 5, none⟩ = some (.int .i64 p.a) := by rw [HO8.out.cellAt _ (by omega)]; exact cx 0 (by decide)
                    have a1 : w8.cell? ⟨gg, (k + 1) * 5 + 1, none⟩ = some (.int .i64 p.g) := by rw [HO8.out.cellAt _ (by omega)]; exact cx 1 (by decide)
                    have a2 : w8.cell? ⟨gg, (k + 1) * 5 + 2, none⟩ = some (.int .i64 p.s) := by rw [HO8.out.cellAt _ (by omega)]; exact cx 2 (by decide)
                    have a3 : w8.cell? ⟨gg, (k + 1) * 5 + 3, none⟩ = some (.int .i64 p.m) := by rw [HO8.out.cellAt _ (by omega)]; exact cx 3 (by decide)
                    have a4 : w8.cell? ⟨gg, (k + 1) * 5 + 4, none⟩ = some (.int .i64 p.z) := by rw [HO8.out.cellAt _ (by omega)]; exact cx 4 (by decide)
                    have d0 : w8.cell? ⟨gg, k * 5, none⟩ = some (.int .i64 y.a) := by rw [HO8.out.cellAt _ (by omega)]; exact cy 0 (by decide)
                    have d1 : w8.cell? ⟨gg, k * 5 + 1, none⟩ = some (.int .i64 y.g) := by rw [HO8.out.cellAt _ (by omega)]; exact cy 1 (by decide)
                    have d2 : w8.cell? ⟨gg, k * 5 + 2, none⟩ = some (.int .i64 y.s) := by rw [HO8.out.cellAt _ (by omega)]; exact cy 2 (by decide)
                    have d3 : w8.cell? ⟨gg, k * 5 + 3, none⟩ = some (.int .i64 y.m) := by rw [HO8.out.cellAt _ (by omega)]; exact cy 3 (by decide)
                    have d4 : w8.cell? ⟨gg, k * 5 + 4, none⟩ = some (.int .i64 y.z) := by rw [HO8.out.cellAt _ (by omega)]; exact cy 4 (by decide)
                    clear cx cy
                    have z0 := HO8.out.frozenAt ((k + 1) * 5)
                    have z1 := HO8.out.frozenAt ((k + 1) * 5 + 1)
                    have z2 := HO8.out.frozenAt ((k + 1) * 5 + 2)
                    have z3 := HO8.out.frozenAt ((k + 1) * 5 + 3)
                    have z4 := HO8.out.frozenAt ((k + 1) * 5 + 4)
                    have e0 := HO8.out.frozenAt (k * 5)
                    have e1 := HO8.out.frozenAt (k * 5 + 1)
                    have e2 := HO8.out.frozenAt (k * 5 + 2)
                    have e3 := HO8.out.frozenAt (k * 5 + 3)
                    have e4 := HO8.out.frozenAt (k * 5 + 4)
                    have HS := hide (swap_tap S p y k HY.out)
                    have HO' := hide (((((((((((HO8.out.stored ((k + 1) * 5) (.int .i64 y.a)).1.stored ((k + 1) * 5 + 1) (.int .i64 y.g)).1.stored ((k + 1) * 5 + 2) (.int .i64 y.s)).1.stored ((k + 1) * 5 + 3) (.int .i64 y.m)).1.stored ((k + 1) * 5 + 4) (.int .i64 y.z)).1.stored (k * 5) (.int .i64 p.a)).1.stored (k * 5 + 1) (.int .i64 p.g)).1.stored (k * 5 + 2) (.int .i64 p.s)).1.stored (k * 5 + 3) (.int .i64 p.m)).1.stored (k * 5 + 4) (.int .i64 p.z)).1)
                    have HB' := hide (((((((((((HB8.out.setCell (p := ⟨gg, (k + 1) * 5, none⟩) (by simp; omega) (.int .i64 y.a)).setCell (p := ⟨gg, (k + 1) * 5 + 1, none⟩) (by simp; omega) (.int .i64 y.g)).setCell (p := ⟨gg, (k + 1) * 5 + 2, none⟩) (by simp; omega) (.int .i64 y.s)).setCell (p := ⟨gg, (k + 1) * 5 + 3, none⟩) (by simp; omega) (.int .i64 y.m)).setCell (p := ⟨gg, (k + 1) * 5 + 4, none⟩) (by simp; omega) (.int .i64 y.z)).setCell (p := ⟨gg, k * 5, none⟩) (by simp; omega) (.int .i64 p.a)).setCell (p := ⟨gg, k * 5 + 1, none⟩) (by simp; omega) (.int .i64 p.g)).setCell (p := ⟨gg, k * 5 + 2, none⟩) (by simp; omega) (.int .i64 p.s)).setCell (p := ⟨gg, k * 5 + 3, none⟩) (by simp; omega) (.int .i64 p.m)).setCell (p := ⟨gg, k * 5 + 4, none⟩) (by simp; omega) (.int .i64 p.z))).drew
                    have HG' : Hid (∀ u, S[k]? = some u → befP p u) := hide (fun u hu => by
                      have h1 := HY.out
                      rw [h1] at hu
                      cases hu
                      exact HBf.out)
                    go_wp2_with fail
                    go_region
                    have HO2 := HO'.out
                    rw [HS.out] at HO2
                    have HO3 := hide HO2.drew
                    clear HO' HO2 HO8 HS
                    go_wp2_with fail
                    exact ⟨⟨k, by omega, by simp, HO3, HG', HB'⟩, by simp [intOf]⟩
            · have HEr := hide (HOr.out.2.1 q p HCa.out HX.out hE)
              clear HX HDi
              go_wp2_with fail
              refine bodyPost_ret (v := .tuple #[.slice none 0 0, .int .i64 6]) (by simp [results, Try.results14, go_sem]) rfl ⟨⟨none, 0, 0, by rw [HEr.out.1], by rw [HEr.out.2]; exact tapsV_nilO _, fresh_nilO _⟩, HB1.out⟩
          · obtain rfl : q = L.length := by omega
            have hd : DistP L := by have := HDi.out; rwa [List.take_length] at this
            have h0 := HOr.out.2.2 HCa.out hd
            have hR := hown.out
            rw [List.take_length] at hR
            obtain ⟨ov, cv, rfl, -, -⟩ := own_sliceB hR
            have HV := hide (tapsV_own hR)
            have HF : Hid (Fresh w.heap.size (.slice ov L.length cv)) := hide (fun k hk => (hR.lt k hk).1)
            have HEr := hide (And.intro h0 (ordR_srt h0))
            clear hown hR h0 hd
            go_wp2_with fail
            refine bodyPost_ret (v := .tuple #[.slice ov L.length cv, .int .i64 0]) (by simp [results, Try.results14, go_sem]) rfl ⟨⟨ov, L.length, cv, by rw [HEr.out.1], by rw [HEr.out.2]; exact HV.out, HF.out⟩, HBr.out⟩

theorem judge_err {k f t z r last rides m zone : Int} (h : (judge k f t z r last rides m zone).2 ≠ 0) : (judge k f t z r last rides m zone).1 = 3 ∧ (judge k f t z r last rides m zone).2 ≠ 2 := by
  unfold judge at h ⊢
  by_cases h1 : place f t z m zone ≠ 0
  · rw [if_pos h1]
    refine ⟨rfl, ?_⟩
    unfold place
    split
    · decide
    · split <;> decide
  · rw [if_neg h1] at h ⊢
    by_cases h2 : 0 ≤ last ∧ last ≤ m ∧ m < last + 60
    · rw [if_pos h2] at h
      exact absurd rfl h
    · rw [if_neg h2] at h ⊢
      by_cases h3 : (k = 1 ∧ 0 < rides) ∨ (k = 3 ∧ r ≤ rides)
      · rw [if_pos h3]
        exact ⟨rfl, by decide⟩
      · rw [if_neg h3] at h
        exact absurd rfl h

/-- what becomes of a tap that fits -/
theorem enter_kind {T : List TK} {P : List TP} {V : List Int} {p : TP} (h0 : chkL T P V = 0) (hc : chkT p = 0) (ht : twiceT P p = false) (hm : ∀ x ∈ P, ¬ p.m < x.m) :
    ((enterV T P V p).2 = 0) ∨ ((enterV T P V p).2 = 2 ∧ bldE T P V p = 2) ∨ ((enterV T P V p).2 ≠ 0 ∧ (enterV T P V p).2 ≠ 2 ∧ ((enterV T P V p).1 = 3 ∨ (enterV T P V p).2 = 5)) := by
  rcases enter_ways p h0 with ⟨h1, e⟩ | ⟨h1, h2, e⟩ | ⟨h1, k, x, hi, hx, hck, ⟨h3, e⟩ | ⟨h3, ⟨n, q, hn, hq, hmm⟩, e⟩ | ⟨h3, hno, e⟩⟩
  · exact absurd hc h1
  · rw [e]
    exact Or.inr (Or.inr ⟨by decide, by decide, Or.inr rfl⟩)
  · rw [ht] at h3
    cases h3
  · exact absurd hmm (hm q (List.mem_of_getElem? hq))
  · by_cases hJ : (judge x.k x.f x.t x.z x.r (many (P.zip V) p.a).2 (many (P.zip V) p.a).1 p.m p.z).2 = 0
    · rw [if_neg (by simpa using hJ)] at e
      by_cases h60 : P.length = 60
      · rw [if_pos h60] at e
        refine Or.inr (Or.inl ⟨by rw [e], ?_⟩)
        unfold bldE
        rw [e]
        decide
      · rw [if_neg h60] at e
        exact Or.inl (by rw [e])
    · rw [if_pos hJ] at e
      obtain ⟨j1, j2⟩ := judge_err hJ
      rw [e]
      exact Or.inr (Or.inr ⟨hJ, j2, Or.inl j1⟩)

theorem bldA_snoc (T : List TK) (p : TP) : ∀ (L P : List TP) (V : List Int) (D : List TP) (P' : List TP) (V' : List Int) (D' : List TP), bldA T L P V D = (0, P', V', D') → bldA T (L ++ [p]) P V D = if bldE T P' V' p = 0 then (0, bldP T P' V' p, bldV T P' V' p, bldD T P' V' D' p) else (bldE T P' V' p, P', V', D')
  | [], P, V, D, P', V', D', h => by
    simp only [bldA, Prod.mk.injEq, true_and] at h
    obtain ⟨rfl, rfl, rfl⟩ := h
    simp [bldA]
  | x :: L, P, V, D, P', V', D', h => by
    unfold bldA at h
    by_cases h1 : bldE T P V x = 0
    · rw [if_pos h1] at h
      have := bldA_snoc T p L _ _ _ P' V' D' h
      rw [List.cons_append]
      unfold bldA
      rw [if_pos h1]
      exact this
    · rw [if_neg h1] at h
      simp only [Prod.mk.injEq] at h
      exact absurd h.1 h1

theorem bldA_stop (T : List TK) (B : List TP) : ∀ (L P : List TP) (V : List Int) (D : List TP), (bldA T L P V D).1 ≠ 0 → bldA T (L ++ B) P V D = bldA T L P V D
  | [], P, V, D, h => absurd rfl h
  | x :: L, P, V, D, h => by
    unfold bldA at h
    rw [List.cons_append]
    unfold bldA
    by_cases h1 : bldE T P V x = 0
    · rw [if_pos h1] at h ⊢
      rw [if_pos h1]
      exact bldA_stop T B L _ _ _ h
    · rw [if_neg h1, if_neg h1]

/-- one step of the document's Into -/
theorem into_step {T : List TK} {Q : List TP} (hO : Ord Q) (hD : DistP Q) (hC : ∀ x ∈ Q, chkT x = 0) (hn : chkL T [] [] = 0) {q : Nat} {p : TP} (hp : Q[q]? = some p) {P' : List TP} {V' : List Int} {D' : List TP} (hI : bldA T (Q.take q) [] [] [] = (0, P', V', D')) :
    chkL T P' V' = 0 ∧ (((enterV T P' V' p).2 = 0 ∧ bldA T (Q.take (q + 1)) [] [] [] = (0, P' ++ [p], V' ++ [(enterV T P' V' p).1], D')) ∨ ((enterV T P' V' p).2 = 2 ∧ (bldA T Q [] [] []).1 = 2) ∨
      ((enterV T P' V' p).2 ≠ 0 ∧ (enterV T P' V' p).2 ≠ 2 ∧ bldA T (Q.take (q + 1)) [] [] [] = (0, P', V', D' ++ [p]))) := by
  have hck : chkL T P' V' = 0 := by
    have := bldA_chk T (Q.take q) [] [] [] hn
    rw [hI] at this
    exact this
  have hperm : (P' ++ D').Perm (Q.take q) := by
    have := bldA_perm T (Q.take q) [] [] [] (by rw [hI])
    rw [hI] at this
    simpa using this
  have hsub : ∀ x ∈ P', x ∈ Q.take q := fun x hx => hperm.mem_iff.1 (List.mem_append.2 (Or.inl hx))
  have hlt := (List.getElem?_eq_some_iff.1 hp).1
  have ht : twiceT P' p = false := by
    rcases h : twiceT P' p with _ | _
    · rfl
    · exfalso
      refine not_dist hp ?_ hD
      unfold twiceT at h ⊢
      rw [List.any_eq_true] at h ⊢
      obtain ⟨x, hx, hh⟩ := h
      exact ⟨x, hsub x hx, hh⟩
  have hm : ∀ x ∈ P', ¬ p.m < x.m := by
    intro x hx
    obtain ⟨i, hi, he⟩ := List.getElem_of_mem (hsub x hx)
    rw [List.length_take] at hi
    rw [List.getElem_take] at he
    obtain ⟨_, rfl⟩ := List.getElem?_eq_some_iff.1 hp
    have hb := List.pairwise_iff_getElem.1 hO i q (by omega) hlt (by omega)
    rw [he] at hb
    unfold befP at hb
    omega
  have htk : Q.take (q + 1) = Q.take q ++ [p] := by rw [List.take_add_one, hp]; rfl
  have hs := bldA_snoc T p (Q.take q) [] [] [] P' V' D' hI
  rw [← htk] at hs
  refine ⟨hck, ?_⟩
  rcases enter_kind hck (hC p (List.mem_of_getElem? hp)) ht hm with h | ⟨h, hb⟩ | ⟨h, h2, h3⟩
  · left
    refine ⟨h, ?_⟩
    rw [hs, if_pos (by simp [bldE, h])]
    simp [bldP, bldV, bldD, h]
  · right; left
    refine ⟨h, ?_⟩
    rw [hb, if_neg (by decide)] at hs
    have h9 := bldA_stop T (Q.drop (q + 1)) (Q.take (q + 1)) [] [] [] (by rw [hs]; simp)
    rw [List.take_append_drop] at h9
    rw [h9, hs]
  · right; right
    refine ⟨h, h2, ?_⟩
    rw [hs, if_pos (by simp [bldE, h, h3])]
    simp [bldP, bldV, bldD, h, h3]

theorem row_onI {w w' : World} {b : Nat} {o : Obj} (h : w.heap[b]? = some o) (hb : Below w.heap.size w w') : w'.heap[b]? = some o := by
  rw [hb.block _ (Array.getElem?_eq_some_iff.1 h).1]
  exact h

theorem cell_set_otherI {w : World} {a b : Addr} {u x y : Value} (ha : w.cell? a = some x) (hb : w.cell? b = some y) (hne : x ≠ y) : (w.setCell b u).cell? a = some x := by
  rw [World.cell?_setCell_other]
  · exact ha
  · intro e
    rw [e, ha] at hb
    exact hne (by simpa using hb)

theorem TapsV.setSl {w : World} {v : Value} {P : List TP} (h : TapsV w v P) {b : Addr} {o : Option Addr} {n c : Nat} (hb : w.cell? b = some (.slice o n c)) (u : Value) : TapsV (w.setCell b u) v P := by
  obtain ⟨o2, c2, rfl, a2, l2⟩ := h
  refine ⟨o2, c2, rfl, fun i p hi => ?_, l2⟩
  obtain ⟨d, e, z0, z1, z2, z3, z4⟩ := a2 i p hi
  exact ⟨d, e, cell_set_otherI z0 hb (by simp), cell_set_otherI z1 hb (by simp), cell_set_otherI z2 hb (by simp), cell_set_otherI z3 hb (by simp), cell_set_otherI z4 hb (by simp)⟩

theorem IntsV.setSl {w : World} {v : Value} {V : List Int} (h : IntsV w v V) {b : Addr} {o : Option Addr} {n c : Nat} (hb : w.cell? b = some (.slice o n c)) (u : Value) : IntsV (w.setCell b u) v V := by
  obtain ⟨o2, c2, rfl, a2, l2⟩ := h
  refine ⟨o2, c2, rfl, fun i p hi => ?_, l2⟩
  obtain ⟨d, e, z0⟩ := a2 i p hi
  exact ⟨d, e, cell_set_otherI z0 hb (by simp)⟩

theorem ints_ltI {w : World} {o : Option Addr} {L : List Int} (h : IntsAt w o L) (A : Addr) (hA : o = some A) (hne : L ≠ []) : A.block < w.heap.size := by
  cases L with
  | nil => exact absurd rfl hne
  | cons p L =>
    obtain ⟨b, hb, c0⟩ := h 0 p rfl
    rw [hA] at hb
    cases hb
    have := World.block_lt_of_cell? w _ c0
    rwa [addr_blk] at this

/-- what stands between two rounds: the ledger in its box bx, what is told in v -/
def IntoS (wx : World) (bx : Nat) (t : Value) (wr : World) (v : Value) (P : List TP) (V : List Int) (D : List TP) : Prop :=
  Below bx wx wr ∧ bx < wr.heap.size ∧ ∃ ox nx cx oy ny cy, wr.heap[bx]? = some (.cells #[t, .slice ox nx cx, .slice oy ny cy] 26) ∧ TapsV wr (.slice ox nx cx) P ∧ IntsV wr (.slice oy ny cy) V ∧ wr.ownsRow (bx + 1) 28 5 v D.length (cellsP D) ∧ ∀ g, v.ownBlock = some g → Off ox P g ∧ Off oy V g

theorem IntoS.on {wx : World} {bx : Nat} {t : Value} {wr w' : World} {v : Value} {P : List TP} {V : List Int} {D : List TP} (h : IntoS wx bx t wr v P V D) (hb : Below wr.heap.size wr w') : IntoS wx bx t w' v P V D := by
  obtain ⟨h1, h2, ox, nx, cx, oy, ny, cy, h3, h4, h5, h6, h7⟩ := h
  exact ⟨h1.trans (hb.mono (by omega)), Nat.lt_of_lt_of_le h2 hb.size, ox, nx, cx, oy, ny, cy, row_onI h3 hb, h4.below hb, h5.below hb, ownsRow_below h6 hb, h7⟩

theorem IntoS.entered {wx : World} {bx : Nat} {t : Value} {wr wz : World} {v : Value} {P : List TP} {V : List Int} {D : List TP} (h : IntoS wx bx t wr v P V D) (hb : Below wr.heap.size wr wz) {o2 o3 : Option Addr} {n2 c2 n3 c3 : Nat} {P2 : List TP} {V2 : List Int}
    (hP : TapsV wz (.slice o2 n2 c2) P2) (fP : Fresh wr.heap.size (.slice o2 n2 c2)) (hV : IntsV wz (.slice o3 n3 c3) V2) (fV : Fresh wr.heap.size (.slice o3 n3 c3)) :
    IntoS wx bx t (((wz.setCell ⟨bx, 0, none⟩ t).setCell ⟨bx, 1, none⟩ (.slice o2 n2 c2)).setCell ⟨bx, 2, none⟩ (.slice o3 n3 c3)) v P2 V2 D := by
  have hlt := h.2.1
  obtain ⟨h1, h2, ox, nx, cx, oy, ny, cy, h3, h4, h5, h6, h7⟩ := h.on hb
  obtain ⟨-, -, -, -, -, -, -, -, -, -, -, g6, -⟩ := h
  have s3 : (((wz.setCell ⟨bx, 0, none⟩ t).setCell ⟨bx, 1, none⟩ (.slice o2 n2 c2)).setCell ⟨bx, 2, none⟩ (.slice o3 n3 c3)).heap[bx]? = some (.cells #[t, .slice o2 n2 c2, .slice o3 n3 c3] 26) := heap_setCell_same _ _ 2 _ _ _ (heap_setCell_same _ _ 1 _ _ _ (heap_setCell_same _ _ 0 _ _ _ h3))
  refine ⟨((h1.setCell (p := ⟨bx, 0, none⟩) (by simp) _).setCell (p := ⟨bx, 1, none⟩) (by simp) _).setCell (p := ⟨bx, 2, none⟩) (by simp) _, by simpa using h2, o2, n2, c2, o3, n3, c3, s3, ?_, ?_, ?_, ?_⟩
  · exact ((hP.set fP (p := ⟨bx, 0, none⟩) hlt _).set fP (p := ⟨bx, 1, none⟩) hlt _).set fP (p := ⟨bx, 2, none⟩) hlt _
  · exact ((hV.set fV (p := ⟨bx, 0, none⟩) hlt _).set fV (p := ⟨bx, 1, none⟩) hlt _).set fV (p := ⟨bx, 2, none⟩) hlt _
  · exact ownsRow_setB (ownsRow_setB (ownsRow_setB h6 (p := ⟨bx, 0, none⟩) (by simp) _) (p := ⟨bx, 1, none⟩) (by simp) _) (p := ⟨bx, 2, none⟩) (by simp) _
  · intro g hg
    have hgl := (g6.lt g hg).2
    refine ⟨fun A hA _ => ?_, fun A hA _ => ?_⟩
    · subst hA
      have := fP A.block rfl
      omega
    · subst hA
      have := fV A.block rfl
      omega

theorem IntoS.told {wx : World} {bx : Nat} {t : Value} {wa w1 : World} {v v1 : Value} {P : List TP} {V : List Int} {D : List TP} {p : TP} (h : IntoS wx bx t wa v P V D)
    (hown : w1.ownsRow (bx + 1) 28 5 v1 (D.length + 1) (cellsP D ++ [.int .i64 p.a, .int .i64 p.g, .int .i64 p.s, .int .i64 p.m, .int .i64 p.z])) (hg : wa.grownBy w1 v.ownBlock) (hv : v1.ownBlock = v.ownBlock ∨ v1.ownBlock = some wa.heap.size) :
    IntoS wx bx t w1 v1 P V (D ++ [p]) := by
  obtain ⟨h1, h2, ox, nx, cx, oy, ny, cy, h3, h4, h5, h6, h7⟩ := h
  have hb : ∀ g, v.ownBlock = some g → bx + 1 ≤ g := fun g hg' => (h6.lt g hg').1
  refine ⟨h1.grown hg (by omega) (fun k hk => by have := hb k hk; omega), Nat.lt_of_lt_of_le h2 hg.size, ox, nx, cx, oy, ny, cy, heap_grownB hg h3 (fun e => by have := hb bx e.symm; omega), h4.grown hg (fun g hg' => (h7 g hg').1), h5.grown hg (fun g hg' => (h7 g hg').2), ?_, ?_⟩
  · rw [List.length_append, cellsP_snoc]
    exact hown
  · intro g hg'
    rcases hv with e | e
    · rw [e] at hg'
      exact h7 g hg'
    · rw [e] at hg'
      obtain rfl : wa.heap.size = g := by simpa using hg'
      refine ⟨fun A hA hne => ?_, fun A hA hne => ?_⟩
      · have := taps_lt h4.eqs.2.1 A hA hne
        omega
      · have := ints_ltI h5.eqs.2.1 A hA hne
        omega

theorem cell_other1I {w : World} {a b : Addr} {u x : Value} (ha : w.cell? a = some x) (hne : b ≠ a) : (w.setCell b u).cell? a = some x := by
  rw [World.cell?_setCell_other]
  · exact ha
  · exact hne

theorem wpList_append_tapB {ops : Array Oper} {rest : List Oper} {o : Oper} {a : Act} {Q : Exit → Act → World → Prop} {w : World} (hgd : o.guard = none) (s x : Operand)
    (ho : o.op = .call { callee := .builtin .append, args := #[s, x], argTypes := #[23, 23] })
    (base : Nat) (v : Value) (D : List TP) (p : TP) (hs : a.eval s = v) (hown : w.ownsRow base 28 5 v D.length (cellsP D)) (ad : Addr) (hx : a.eval x = .slice (some ad) 1 1)
    (hn : ∀ j u, [Value.int .i64 p.a, .int .i64 p.g, .int .i64 p.s, .int .i64 p.m, .int .i64 p.z][j]? = some u → w.cell? (ad.add j) = some u) (hb : D.length ≤ 1000) (hbase : base ≤ w.heap.size)
    (h : ∀ v' w', w'.ownsRow base 28 5 v' (D.length + 1) (cellsP D ++ [.int .i64 p.a, .int .i64 p.g, .int .i64 p.s, .int .i64 p.m, .int .i64 p.z]) → w.grownBy w' v.ownBlock → (v'.ownBlock = v.ownBlock ∨ v'.ownBlock = some w.heap.size) → wpList Try.prog ops Q rest (a.put o.dst v') w') : wpList Try.prog ops Q (o :: rest) a w := by
  obtain ⟨i0, hi, hz0, hz1, hz2⟩ := info_parts info32
  exact wpList_plain hgd fun _ hK => wp_append_rowB s x 23 ho base 28 i0 _ 5 40 Try.underlying23 hi hz0 hz1 hz2 rfl (by decide) v D.length (cellsP D) hs hown ad 1 1 [.int .i64 p.a, .int .i64 p.g, .int .i64 p.s, .int .i64 p.m, .int .i64 p.z] hx rfl hn (by intro u hu; simp at hu; rcases hu with rfl | rfl | rfl | rfl | rfl <;> rfl) (by unfold maxLen; omega) (by omega) hbase fun v' w' h2 h3 h4 => hK _ _ (h v' w' h2 h3 h4)

set_option maxHeartbeats 12800000 in
set_option maxRecDepth 100000 in
theorem intoOf_any (T : List TK) (P : List TP) (V : List Int) (M : List TP) (o1 o2 o3 om : Option Addr) (c1 c2 c3 cm : Nat) (w : World) (hled : LedV w (lg o1 o2 o3 T.length c1 P.length c2 V.length c3) T P V) (h0 : chkL T P V = 0) (hM : TapsV w (.slice om M.length cm) M) :
    Calls Try.prog 16 #[lg o1 o2 o3 T.length c1 P.length c2 V.length c3, .slice om M.length cm] w fun e w' =>
      (∃ lv ov, e = .returned (.tuple #[lv, ov, .int .i64 (intoE T P V M)]) ∧ LedV w' lv (intoT T P V M) (intoP T P V M) (intoV T P V M) ∧ TapsV w' ov (intoD T P V M)) ∧ Below w.heap.size w w' := by
  have HG := hide (((Blks.nil w).more (.cells #[.slice o1 T.length c1, .slice o2 P.length c2, .slice o3 V.length c3] 26) (by simp)).more (.cells #[.slice none 0 0, .slice none 0 0, .slice none 0 0] 26) (by simp))
  have HLed := hide hled
  have HMt := hide hM
  have hlens := chkL_lens h0
  obtain ⟨hl1, hl2, hl3'⟩ := hlens
  have hl3 : V.length ≤ 60 := by omega
  clear hl3' hled hM
  have l0 := HG.out.cell 0 0 w.heap.size _ _ _ rfl rfl rfl
  have l1 := HG.out.cell 0 1 w.heap.size _ _ _ rfl rfl rfl
  have l2 := HG.out.cell 0 2 w.heap.size _ _ _ rfl rfl rfl
  by_cases h12 : 12 < M.length
  · have HEr : Hid (intoE T P V M = 2 ∧ intoT T P V M = [] ∧ intoP T P V M = [] ∧ intoV T P V M = [] ∧ intoD T P V M = []) := hide (by
      have he : intoE T P V M = 2 := by rw [intoE, if_pos h0, if_pos h12]
      exact ⟨he, into_err (by rw [he]; decide)⟩)
    have h12' : (12 : Int) < (M.length : Int) := by omega
    have r0 := HG.out.cell 1 0 (w.heap.size + 1) _ _ _ rfl rfl rfl
    have s0 := HG.out.frozen 1 0 (w.heap.size + 1) _ _ rfl rfl
    have r1 := HG.out.cell 1 1 (w.heap.size + 1) _ _ _ rfl rfl rfl
    have s1 := HG.out.frozen 1 1 (w.heap.size + 1) _ _ rfl rfl
    have r2 := HG.out.cell 1 2 (w.heap.size + 1) _ _ _ rfl rfl rfl
    have s2 := HG.out.frozen 1 2 (w.heap.size + 1) _ _ rfl rfl
    have rl := HG.out.lt 1 (w.heap.size + 1) (by simp) rfl
    go_enter Try.func16, Try.ntmps16
    go_wp2_with fail
    refine bodyPost_ret (v := .tuple #[lg none none none 0 0 0 0 0 0, .slice none 0 0, .int .i64 2]) (by simp [results, Try.results16, go_sem, *]) rfl ⟨⟨lg none none none 0 0 0 0 0 0, .slice none 0 0, by rw [HEr.out.1], by rw [HEr.out.2.1, HEr.out.2.2.1, HEr.out.2.2.2.1]; exact (ledN_none 0 _).ledV, by rw [HEr.out.2.2.2.2]; exact tapsV_nilO _⟩, ?_⟩
    repeat (first | exact HG.out.2.2 | with_reducible refine Below.drew ?_ | with_reducible refine Below.setCell ?_ (by simp; try omega) _)
  · have h12' : ¬ (12 : Int) < (M.length : Int) := by omega
    obtain ⟨B, hBe⟩ : ∃ B, B = P ++ M := ⟨_, rfl⟩
    have HBe := hide hBe
    have hBl : B.length ≤ 72 := by rw [hBe, List.length_append]; omega
    have HOp : Hid (World.ownsRow (((w.alloc (.cells #[.slice o1 T.length c1, .slice o2 P.length c2, .slice o3 V.length c3] 26)).alloc (.cells #[.slice none 0 0, .slice none 0 0, .slice none 0 0] 26)).alloc (.cells #[] 28)) (w.heap.size + 1 + 1) 28 5 (.slice (some ⟨w.heap.size + 1 + 1, 0, none⟩) 0 0) ([] : List TP).length (cellsP [])) := hide (by have h := World.ownsRow_made (base := w.heap.size + 1 + 1) (e := 28) (size := 5) ((w.alloc (.cells #[.slice o1 T.length c1, .slice o2 P.length c2, .slice o3 V.length c3] 26)).alloc (.cells #[.slice none 0 0, .slice none 0 0, .slice none 0 0] 26)) #[] 0 (by simp) (by decide) rfl; rw [show ((w.alloc (.cells #[.slice o1 T.length c1, .slice o2 P.length c2, .slice o3 V.length c3] 26)).alloc (.cells #[.slice none 0 0, .slice none 0 0, .slice none 0 0] 26)).heap.size = w.heap.size + 1 + 1 by simp] at h; exact h)
    have HXp := hide (TapsV.below ((HLed.out.below HG.out.2.2).parts3.2.1) ((Below.refl _ ((w.alloc (.cells #[.slice o1 T.length c1, .slice o2 P.length c2, .slice o3 V.length c3] 26)).alloc (.cells #[.slice none 0 0, .slice none 0 0, .slice none 0 0] 26))).alloc (Nat.le_refl _) (.cells #[] 28)))
    have HK : Hid ((ordE B ≠ 0 → intoE T P V M = ordE B ∧ intoT T P V M = [] ∧ intoP T P V M = [] ∧ intoV T P V M = [] ∧ intoD T P V M = []) ∧ (ordE B = 0 → (bldA T (srt B) [] [] []).1 = 2 → intoE T P V M = 2 ∧ intoT T P V M = [] ∧ intoP T P V M = [] ∧ intoV T P V M = [] ∧ intoD T P V M = []) ∧ (ordE B = 0 → ∀ P' V' D', bldA T (srt B) [] [] [] = (0, P', V', D') → intoE T P V M = 0 ∧ intoT T P V M = T ∧ intoP T P V M = P' ∧ intoV T P V M = V' ∧ intoD T P V M = D')) := hide (by
      subst hBe
      refine ⟨fun h => ?_, fun h hb => ?_, fun h P' V' D' hb => ?_⟩
      · have he : intoE T P V M = ordE (P ++ M) := by rw [intoE, if_pos h0, if_neg h12, if_neg h]
        exact ⟨he, into_err (by rw [he]; exact h)⟩
      · have he : intoE T P V M = 2 := by rw [intoE, if_pos h0, if_neg h12, if_pos h]; exact hb
        exact ⟨he, into_err (by rw [he]; decide)⟩
      · have he : intoE T P V M = 0 := by rw [intoE, if_pos h0, if_neg h12, if_pos h, intoB, hb]
        obtain ⟨-, -, -, -, e1, e2, e3, e4⟩ := into_right he
        rw [e1, e2, e3, e4, intoB, hb]
        exact ⟨he, rfl, rfl, rfl, rfl⟩)
    have HNil := hide (chkL_nil h0)
    clear hBe h0
    go_enter Try.func16, Try.ntmps16
    go_wp2_with first
      | (at_builtin; refine wpList_append_taps rfl _ _ rfl (w.heap.size + 1 + 1) _ [] rfl HOp.out o2 c2 P rfl HXp.out (by simp; omega) (by simp; try omega) ?_; intro v1 wi hown1 hgrow1; have HB1 := hide (((Below.refl (w.heap.size + 1 + 1) ((w.alloc (.cells #[.slice o1 T.length c1, .slice o2 P.length c2, .slice o3 V.length c3] 26)).alloc (.cells #[.slice none 0 0, .slice none 0 0, .slice none 0 0] 26))).alloc (by simp; try omega) (.cells #[] 28)).grown hgrow1 (by simp; try omega) (fun k hk => (HOp.out.lt k hk).1)); have HO1 : Hid (wi.ownsRow (w.heap.size + 1 + 1) 28 5 v1 P.length (cellsP P)) := hide hown1; clear hown1 hgrow1)
      | (at_builtin; refine wpList_append_taps rfl _ _ rfl (w.heap.size + 1 + 1) _ P rfl HO1.out om cm M rfl (HMt.out.below (HG.out.keep HB1.out).2.2) (by omega) (by have := (HG.out.keep HB1.out).2.1; simpa using this) ?_; intro v2 wj hown2 hgrow2; have HBj := hide (HB1.out.grown hgrow2 (by have := (HG.out.keep HB1.out).2.1; simpa using this) (fun k hk => (HO1.out.lt k hk).1)); rw [← HBe.out] at hown2; obtain ⟨ob, cb, rfl, hcb, hnb⟩ := own_sliceB hown2; have HRb := hide (tapsV_own hown2); clear hown2 hgrow2 hcb hnb)
    have HGj := hide (HG.out.keep HBj.out)
    clear HG HOp HXp HB1 HO1 HBj HBe l0 l1 l2
    refine (orderOf_any ob cb B _ HRb.out.eqs.2.1 (by omega)).mono ?_
    rintro e wk ⟨⟨oq, nq, cq, rfl, hTo, -⟩, hb⟩
    obtain ⟨rfl, -⟩ := hTo.eqs
    have HQk := hide hTo
    have HGk := hide (HGj.out.on hb)
    clear hb hTo HGj HRb
    rcases hE : (ordE B != 0) with _ | _
    rotate_left 1
    · have HEr := hide (HK.out.1 (by simpa using hE))
      generalize ordE B = E at *
      have r0 := HGk.out.cell 1 0 (w.heap.size + 1) _ _ _ rfl rfl rfl
      have s0 := HGk.out.frozen 1 0 (w.heap.size + 1) _ _ rfl rfl
      have r1 := HGk.out.cell 1 1 (w.heap.size + 1) _ _ _ rfl rfl rfl
      have s1 := HGk.out.frozen 1 1 (w.heap.size + 1) _ _ rfl rfl
      have r2 := HGk.out.cell 1 2 (w.heap.size + 1) _ _ _ rfl rfl rfl
      have s2 := HGk.out.frozen 1 2 (w.heap.size + 1) _ _ rfl rfl
      have rl := HGk.out.lt 1 (w.heap.size + 1) (by simp) rfl
      go_wp2_with fail
      refine bodyPost_ret (v := .tuple #[lg none none none 0 0 0 0 0 0, .slice none 0 0, .int .i64 E]) (by simp [results, Try.results16, go_sem, *]) rfl ⟨⟨lg none none none 0 0 0 0 0 0, .slice none 0 0, by rw [HEr.out.1], by rw [HEr.out.2.1, HEr.out.2.2.1, HEr.out.2.2.2.1]; exact (ledN_none 0 _).ledV, by rw [HEr.out.2.2.2.2]; exact tapsV_nilO _⟩, ?_⟩
      repeat (first | exact HGk.out.2.2 | with_reducible refine Below.drew ?_ | with_reducible refine Below.setCell ?_ (by simp; try omega) _)
    · have hE0 : ordE B = 0 := by simpa using hE
      have HK2 := hide (HK.out.2.1 hE0)
      have HK3 := hide (HK.out.2.2 hE0)
      have HSt := hide (And.intro (srt_ord (ordE_right hE0).2.2) (And.intro (srt_dist (ordE_right hE0).2.2) (fun x hx => (ordE_right hE0).2.1 x ((srt_perm B).mem_iff.1 hx))))
      have hQl : (srt B).length ≤ 72 := by rw [srt_len]; exact hBl
      rw [ordR_srt hE0] at HQk ⊢
      rw [hE0]
      clear hE hE0 HK
      generalize srt B = Q at *
      have l0 := HGk.out.cell 0 0 w.heap.size _ _ _ rfl rfl rfl
      have l1 := HGk.out.cell 0 1 w.heap.size _ _ _ rfl rfl rfl
      have l2 := HGk.out.cell 0 2 w.heap.size _ _ _ rfl rfl rfl
      go_wp2_with fail
      have hb := (Below.refl wk.heap.size wk).alloc (Nat.le_refl _) (.cells #[.slice o1 T.length c1, .slice none 0 0, .slice none 0 0] 26)
      have HS0 : Hid (IntoS (wk.alloc (.cells #[.slice o1 T.length c1, .slice none 0 0, .slice none 0 0] 26)) wk.heap.size (.slice o1 T.length c1) (wk.alloc (.cells #[.slice o1 T.length c1, .slice none 0 0, .slice none 0 0] 26)) (.slice none 0 0) [] [] []) := hide ⟨Below.refl _ _, by simp, none, 0, 0, none, 0, 0, heap_alloc_new' _ _ _ rfl, tapsV_nilO _, ⟨none, 0, rfl, fun i p h => by simp at h, by simp, fun _ => rfl⟩, World.ownsRow_nil _ _ _ _, fun g hg => by simp [Value.ownBlock] at hg⟩
      have HGx := hide (HGk.out.on hb)
      have HQx := hide (HQk.out.below hb)
      have HQlt := hide (fun A (hA : oq = some A) (hne : Q ≠ []) => taps_lt HQk.out.eqs.2.1 A hA hne)
      have hbx : w.heap.size + 2 ≤ wk.heap.size := HGk.out.2.1
      clear hb HGk HQk l0 l1 l2
      generalize wk.alloc (.cells #[.slice o1 T.length c1, .slice none 0 0, .slice none 0 0] 26) = wx at *
      generalize wk.heap.size = bx at *
      go_loopw [10, 11, 12, 13, 14] (fun v j _ _ _ wr => ∃ (q : Nat) (P' : List TP) (V' : List Int) (D' : List TP), q ≤ Q.length ∧ j = .int .i64 q ∧ Hid (bldA T (Q.take q) [] [] [] = (0, P', V', D')) ∧ Hid (IntoS wx bx (.slice o1 T.length c1) wr v P' V' D')) (fun _ j _ _ _ _ => Q.length - (intOf j).toNat)
      case atStart => exact ⟨0, [], [], [], Nat.zero_le _, rfl, hide (by simp [bldA]), HS0⟩
      case round =>
        obtain ⟨q, P', V', D', hq, rfl, HI, HS⟩ := hrel
        have HGr := hide (HGx.out.keep (HS.out.1.mono hbx))
        have HDl : Hid (D'.length ≤ 1000) := hide (by
          have h := (bldA_perm T (Q.take q) [] [] [] (by rw [HI.out])).length_eq
          rw [HI.out] at h
          simp at h
          omega)
        by_cases hgo : q < Q.length
        · obtain ⟨p, hp⟩ : ∃ p, Q[q]? = some p := ⟨Q[q], by simp [hgo]⟩
          obtain ⟨hck, hst⟩ := into_step HSt.out.1 HSt.out.2.1 HSt.out.2.2 HNil.out hp HI.out
          have hQr := HQx.out.eqs.2.1.keepB HS.out.1 HQlt.out
          obtain ⟨A, rfl, hT5⟩ := hQr q p hp
          have HT5 := hide hT5
          obtain ⟨-, hbl, ox, nx, cx, oy, ny, cy, hrow0, hPl, hVl, -, -⟩ := HS.out
          obtain ⟨rfl, -⟩ := hPl.eqs
          obtain ⟨rfl, -⟩ := hVl.eqs
          have HRow := hide hrow0
          have HC0 := fun W (hb : Below wr.heap.size wr W) => enterOfF (o1 := o1) (c1 := c1) (T := T) (⟨_, _, _, rfl, (HLed.out.below (HGr.out.on hb).2.2).parts3.1, hPl.below hb, hVl.below hb⟩ : LedV W (lg o1 ox oy T.length c1 P'.length cx V'.length cy) T P' V') hck p.a p.g p.s p.m p.z
          clear hrow0 hPl hVl hQr hT5 hp
          rcases hst with ⟨hz, hA⟩ | ⟨h2, hB⟩ | ⟨hn0, hn2, hA⟩
          · have hz' : (enterV T P' V' (⟨p.a, p.g, p.s, p.m, p.z⟩ : TP)).2 = 0 := hz
            have hA' : bldA T (Q.take (q + 1)) [] [] [] = (0, P' ++ [p], V' ++ [(enterV T P' V' (⟨p.a, p.g, p.s, p.m, p.z⟩ : TP)).1], D') := hA
            simp only [if_pos hz'] at HC0
            simp only [hz'] at HC0
            clear hz hz' hA HI
            generalize (enterV T P' V' (⟨p.a, p.g, p.s, p.m, p.z⟩ : TP)).1 = E1 at *
            have HC := hide HC0
            have HA := hide hA'
            clear HC0 hA'
            go_wp2_with fail
            refine wp_region_reads (fun w' => w'.heap[bx]? = some (.cells #[.slice o1 T.length c1, .slice ox P'.length cx, .slice oy V'.length cy] 26) ∧ Tap5 w' (A.add (q * 5)) p) [0, 1, 2, 3, 4] 9 (by rfl) (by kernel_rfl) (by kernel_rfl) (by kernel_rfl) (fun c d v a w h => by cases d <;> exact h) ?_ ?_
            · exact ⟨row_onI HRow.out (Below.refl _ _).drew, HT5.out.below (Below.refl _ _).drew HT5.out.lt⟩
            refine wpPureH_step (lg o1 ox oy T.length c1 P'.length cx V'.length cy) rfl rfl (fun w' hS => ?_) ?_
            · have x0 := cell_of_row w' _ 0 _ _ _ hS.1
              have x1 := cell_of_row w' _ 1 _ _ _ hS.1
              have x2 := cell_of_row w' _ 2 _ _ _ hS.1
              simp at x0 x1 x2
              go_simp
            refine wpPureH_step (.slice (some A) Q.length cq) rfl rfl (fun w' hS => ?_) ?_
            · go_simp
            refine wpPureH_step (.int .i64 (q : Int)) rfl rfl (fun w' hS => ?_) ?_
            · go_simp
            refine wpPureH_step (.pointer (some (A.add (q * 5)))) rfl rfl (fun w' hS => ?_) ?_
            · go_simp
            refine wpPureH_step (tp p.a p.g p.s p.m p.z) rfl rfl (fun w' hS => ?_) ?_
            · obtain ⟨-, c0, c1', c2', c3', c4'⟩ := hS
              go_simp
            refine wpPureH_nil ?_
            have HBd := hide ((Below.refl wr.heap.size wr).drew)
            generalize wr.drew = wd at *
            refine two_readyH (i := 5) (j := 10) (by kernel_rfl) rfl rfl rfl rfl (fun K hK => ?_) (fun K hK => ?_)
            · go_simp
              refine (HC.out wd HBd.out).mono ?_
              rintro e w6 ⟨⟨v', rfl, v2, v3, rfl, ⟨⟨b2, y2', rfl, hp1⟩, fp⟩, ⟨⟨b3, y3', rfl, hv1⟩, fv⟩⟩, hbd⟩
              have HPm := hide (show TapsV w6 (.slice b2 (P' ++ [(⟨p.a, p.g, p.s, p.m, p.z⟩ : TP)]).length y2') (P' ++ [p]) from ⟨b2, y2', rfl, hp1⟩)
              have HVm := hide (show IntsV w6 (.slice b3 (V' ++ [E1]).length y3') (V' ++ [E1]) from ⟨b3, y3', rfl, hv1⟩)
              have FP := hide (fp.mono HBd.out.size)
              have FV := hide (fv.mono HBd.out.size)
              clear hp1 hv1 fp fv
              generalize (P' ++ [(⟨p.a, p.g, p.s, p.m, p.z⟩ : TP)]).length = n2 at *
              generalize (V' ++ [E1]).length = n3 at *
              have HB6 := hide (HBd.out.trans (hbd.mono HBd.out.size))
              refine hK _ _ ⟨row_onI HRow.out HB6.out, HT5.out.below HB6.out HT5.out.lt⟩ ?_
              clear hK K hbd HBd
              refine takesH (fuel := 4) (by kernel_rfl) (fun c d v a w h => by cases d <;> exact h) ⟨row_onI HRow.out HB6.out, HT5.out.below HB6.out HT5.out.lt⟩ [6, 7, 8, 9] _ _ (by kernel_rfl) ?_
              refine wpPureH_step (.tuple #[.agg #[.slice o1 T.length c1, .slice b2 n2 y2', .slice b3 n3 y3'], .int .i64 E1, .int .i64 0]) rfl rfl (fun w' _ => by go_simp) ?_
              refine wpPureH_step (.agg #[.slice o1 T.length c1, .slice b2 n2 y2', .slice b3 n3 y3']) rfl rfl (fun w' _ => by go_simp) ?_
              refine wpPureH_step (.int .i64 E1) rfl rfl (fun w' _ => by go_simp) ?_
              refine wpPureH_step (.int .i64 0) rfl rfl (fun w' _ => by go_simp) ?_
              refine wpPureH_nil ?_
              refine one_readyH (i := 10) (by kernel_rfl) rfl rfl (fun K hK => ?_)
              go_simp
              have hbd := (Below.refl w6.heap.size w6).alloc (Nat.le_refl _) (cL none none none 0 0 0 0 0 0 26)
              have hrow : (w6.alloc (cL none none none 0 0 0 0 0 0 26)).heap[w6.heap.size]? = some (cL none none none 0 0 0 0 0 0 26) := heap_alloc_new' _ _ _ rfl
              have HBw := hide (HB6.out.trans (hbd.mono HB6.out.size))
              have hby : wr.heap.size ≤ w6.heap.size := HB6.out.size
              have HPm := hide (HPm.out.below hbd)
              have HVm := hide (HVm.out.below hbd)
              refine hK _ _ ⟨row_onI HRow.out HBw.out, HT5.out.below HBw.out HT5.out.lt⟩ ?_
              clear hK K hbd HB6
              generalize w6.alloc (cL none none none 0 0 0 0 0 0 26) = wz at *
              generalize w6.heap.size = by' at *
              have r0 := cell_of_row wz _ 0 _ _ _ hrow
              have r1 := cell_of_row wz _ 1 _ _ _ hrow
              have r2 := cell_of_row wz _ 2 _ _ _ hrow
              have s0 := frozen_of_row wz _ 0 _ _ hrow
              have s1 := frozen_of_row wz _ 1 _ _ hrow
              have s2 := frozen_of_row wz _ 2 _ _ hrow
              simp at r0 r1 r2
              clear hrow
              have HBg := hide (((HBw.out.setCell (p := ⟨by', 0, none⟩) hby (.slice o1 T.length c1)).setCell (p := ⟨by', 1, none⟩) hby (.slice b2 n2 y2')).setCell (p := ⟨by', 2, none⟩) hby (.slice b3 n3 y3'))
              have HPn := hide (((HPm.out.setSl r0 (.slice o1 T.length c1)).setSl (cell_other1I r1 (by simp)) (.slice b2 n2 y2')).setSl (cell_other1I (cell_other1I r2 (by simp)) (by simp)) (.slice b3 n3 y3'))
              have HVn := hide (((HVm.out.setSl r0 (.slice o1 T.length c1)).setSl (cell_other1I r1 (by simp)) (.slice b2 n2 y2')).setSl (cell_other1I (cell_other1I r2 (by simp)) (by simp)) (.slice b3 n3 y3'))
              clear HPm HVm
              refine one_readyH (i := 11) (by kernel_rfl) rfl rfl (fun K hK => ?_)
              go_simp
              have y0 : (((wz.setCell ⟨by', 0, none⟩ (.slice o1 T.length c1)).setCell ⟨by', 1, none⟩ (.slice b2 n2 y2')).setCell ⟨by', 2, none⟩ (.slice b3 n3 y3')).cell? ⟨by', 0, none⟩ = some (.slice o1 T.length c1) := by simp [go_sem, r0]
              have y1 : (((wz.setCell ⟨by', 0, none⟩ (.slice o1 T.length c1)).setCell ⟨by', 1, none⟩ (.slice b2 n2 y2')).setCell ⟨by', 2, none⟩ (.slice b3 n3 y3')).cell? ⟨by', 1, none⟩ = some (.slice b2 n2 y2') := by simp [go_sem, r1]
              have y2 : (((wz.setCell ⟨by', 0, none⟩ (.slice o1 T.length c1)).setCell ⟨by', 1, none⟩ (.slice b2 n2 y2')).setCell ⟨by', 2, none⟩ (.slice b3 n3 y3')).cell? ⟨by', 2, none⟩ = some (.slice b3 n3 y3') := by simp [go_sem, r2]
              refine hK _ _ ⟨row_onI HRow.out HBg.out, HT5.out.below HBg.out HT5.out.lt⟩ ?_
              clear hK K r0 r1 r2 s0 s1 s2 HBw
              generalize ((wz.setCell ⟨by', 0, none⟩ (.slice o1 T.length c1)).setCell ⟨by', 1, none⟩ (.slice b2 n2 y2')).setCell ⟨by', 2, none⟩ (.slice b3 n3 y3') = wg at *
              refine one_readyH (i := 12) (by kernel_rfl) rfl rfl (fun K hK => ?_)
              go_simp
              refine hK _ _ ⟨row_onI HRow.out HBg.out, HT5.out.below HBg.out HT5.out.lt⟩ ?_
              clear hK K
              refine one_readyH (i := 13) (by kernel_rfl) rfl rfl (fun K hK => ?_)
              go_simp
              refine hK _ _ ⟨row_onI HRow.out HBg.out, HT5.out.below HBg.out HT5.out.lt⟩ ?_
              clear hK K
              refine wpAnyH_done (by kernel_rfl) ?_ _
              have hrw := row_onI HRow.out HBg.out
              have x0 := cell_of_row wg _ 0 _ _ _ hrw
              have x1 := cell_of_row wg _ 1 _ _ _ hrw
              have x2 := cell_of_row wg _ 2 _ _ _ hrw
              have u0 := frozen_of_row wg _ 0 _ _ hrw
              have u1 := frozen_of_row wg _ 1 _ _ hrw
              have u2 := frozen_of_row wg _ 2 _ _ hrw
              simp at x0 x1 x2
              have HS2 := hide (HS.out.entered HBg.out HPn.out FP.out HVn.out FV.out)
              clear hrw
              go_wp2_with fail
              exact ⟨⟨q + 1, _, _, D', by omega, by simp, HA, HS2⟩, by simp [intOf]; omega⟩
            · go_simp
              have hbz := (Below.refl wd.heap.size wd).alloc (Nat.le_refl _) (cL none none none 0 0 0 0 0 0 26)
              have hrow : (wd.alloc (cL none none none 0 0 0 0 0 0 26)).heap[wd.heap.size]? = some (cL none none none 0 0 0 0 0 0 26) := heap_alloc_new' _ _ _ rfl
              have HBz := hide (HBd.out.trans (hbz.mono HBd.out.size))
              have hby : wr.heap.size ≤ wd.heap.size := HBd.out.size
              refine hK _ _ ⟨row_onI HRow.out HBz.out, HT5.out.below HBz.out HT5.out.lt⟩ ?_
              clear hK K hbz HBd
              generalize wd.alloc (cL none none none 0 0 0 0 0 0 26) = wz at *
              generalize wd.heap.size = by' at *
              refine one_readyH (i := 5) (by kernel_rfl) rfl rfl (fun K hK => ?_)
              go_simp
              refine (HC.out wz HBz.out).mono ?_
              rintro e w6 ⟨⟨v', rfl, v2, v3, rfl, ⟨⟨b2, y2', rfl, hp1⟩, fp⟩, ⟨⟨b3, y3', rfl, hv1⟩, fv⟩⟩, hbd⟩
              have HPm := hide (show TapsV w6 (.slice b2 (P' ++ [(⟨p.a, p.g, p.s, p.m, p.z⟩ : TP)]).length y2') (P' ++ [p]) from ⟨b2, y2', rfl, hp1⟩)
              have HVm := hide (show IntsV w6 (.slice b3 (V' ++ [E1]).length y3') (V' ++ [E1]) from ⟨b3, y3', rfl, hv1⟩)
              have FP := hide (fp.mono HBz.out.size)
              have FV := hide (fv.mono HBz.out.size)
              clear hp1 hv1 fp fv
              generalize (P' ++ [(⟨p.a, p.g, p.s, p.m, p.z⟩ : TP)]).length = n2 at *
              generalize (V' ++ [E1]).length = n3 at *
              have HB6 := hide (HBz.out.trans (hbd.mono HBz.out.size))
              have hrow := row_onI hrow hbd
              refine hK _ _ ⟨row_onI HRow.out HB6.out, HT5.out.below HB6.out HT5.out.lt⟩ ?_
              clear hK K hbd HBz
              refine takesH (fuel := 3) (by kernel_rfl) (fun c d v a w h => by cases d <;> exact h) ⟨row_onI HRow.out HB6.out, HT5.out.below HB6.out HT5.out.lt⟩ [6, 7, 8, 9] _ _ (by kernel_rfl) ?_
              refine wpPureH_step (.tuple #[.agg #[.slice o1 T.length c1, .slice b2 n2 y2', .slice b3 n3 y3'], .int .i64 E1, .int .i64 0]) rfl rfl (fun w' _ => by go_simp) ?_
              refine wpPureH_step (.agg #[.slice o1 T.length c1, .slice b2 n2 y2', .slice b3 n3 y3']) rfl rfl (fun w' _ => by go_simp) ?_
              refine wpPureH_step (.int .i64 E1) rfl rfl (fun w' _ => by go_simp) ?_
              refine wpPureH_step (.int .i64 0) rfl rfl (fun w' _ => by go_simp) ?_
              refine wpPureH_nil ?_
              have HBw := HB6
              have r0 := cell_of_row w6 _ 0 _ _ _ hrow
              have r1 := cell_of_row w6 _ 1 _ _ _ hrow
              have r2 := cell_of_row w6 _ 2 _ _ _ hrow
              have s0 := frozen_of_row w6 _ 0 _ _ hrow
              have s1 := frozen_of_row w6 _ 1 _ _ hrow
              have s2 := frozen_of_row w6 _ 2 _ _ hrow
              simp at r0 r1 r2
              clear hrow
              have HBg := hide (((HBw.out.setCell (p := ⟨by', 0, none⟩) hby (.slice o1 T.length c1)).setCell (p := ⟨by', 1, none⟩) hby (.slice b2 n2 y2')).setCell (p := ⟨by', 2, none⟩) hby (.slice b3 n3 y3'))
              have HPn := hide (((HPm.out.setSl r0 (.slice o1 T.length c1)).setSl (cell_other1I r1 (by simp)) (.slice b2 n2 y2')).setSl (cell_other1I (cell_other1I r2 (by simp)) (by simp)) (.slice b3 n3 y3'))
              have HVn := hide (((HVm.out.setSl r0 (.slice o1 T.length c1)).setSl (cell_other1I r1 (by simp)) (.slice b2 n2 y2')).setSl (cell_other1I (cell_other1I r2 (by simp)) (by simp)) (.slice b3 n3 y3'))
              clear HPm HVm
              refine one_readyH (i := 11) (by kernel_rfl) rfl rfl (fun K hK => ?_)
              go_simp
              have y0 : (((w6.setCell ⟨by', 0, none⟩ (.slice o1 T.length c1)).setCell ⟨by', 1, none⟩ (.slice b2 n2 y2')).setCell ⟨by', 2, none⟩ (.slice b3 n3 y3')).cell? ⟨by', 0, none⟩ = some (.slice o1 T.length c1) := by simp [go_sem, r0]
              have y1 : (((w6.setCell ⟨by', 0, none⟩ (.slice o1 T.length c1)).setCell ⟨by', 1, none⟩ (.slice b2 n2 y2')).setCell ⟨by', 2, none⟩ (.slice b3 n3 y3')).cell? ⟨by', 1, none⟩ = some (.slice b2 n2 y2') := by simp [go_sem, r1]
              have y2 : (((w6.setCell ⟨by', 0, none⟩ (.slice o1 T.length c1)).setCell ⟨by', 1, none⟩ (.slice b2 n2 y2')).setCell ⟨by', 2, none⟩ (.slice b3 n3 y3')).cell? ⟨by', 2, none⟩ = some (.slice b3 n3 y3') := by simp [go_sem, r2]
              refine hK _ _ ⟨row_onI HRow.out HBg.out, HT5.out.below HBg.out HT5.out.lt⟩ ?_
              clear hK K r0 r1 r2 s0 s1 s2 HBw
              generalize ((w6.setCell ⟨by', 0, none⟩ (.slice o1 T.length c1)).setCell ⟨by', 1, none⟩ (.slice b2 n2 y2')).setCell ⟨by', 2, none⟩ (.slice b3 n3 y3') = wg at *
              refine one_readyH (i := 12) (by kernel_rfl) rfl rfl (fun K hK => ?_)
              go_simp
              refine hK _ _ ⟨row_onI HRow.out HBg.out, HT5.out.below HBg.out HT5.out.lt⟩ ?_
              clear hK K
              refine one_readyH (i := 13) (by kernel_rfl) rfl rfl (fun K hK => ?_)
              go_simp
              refine hK _ _ ⟨row_onI HRow.out HBg.out, HT5.out.below HBg.out HT5.out.lt⟩ ?_
              clear hK K
              refine wpAnyH_done (by kernel_rfl) ?_ _
              have hrw := row_onI HRow.out HBg.out
              have x0 := cell_of_row wg _ 0 _ _ _ hrw
              have x1 := cell_of_row wg _ 1 _ _ _ hrw
              have x2 := cell_of_row wg _ 2 _ _ _ hrw
              have u0 := frozen_of_row wg _ 0 _ _ hrw
              have u1 := frozen_of_row wg _ 1 _ _ hrw
              have u2 := frozen_of_row wg _ 2 _ _ hrw
              simp at x0 x1 x2
              have HS2 := hide (HS.out.entered HBg.out HPn.out FP.out HVn.out FV.out)
              clear hrw
              go_wp2_with fail
              exact ⟨⟨q + 1, _, _, D', by omega, by simp, HA, HS2⟩, by simp [intOf]; omega⟩
          · have h2' : (enterV T P' V' (⟨p.a, p.g, p.s, p.m, p.z⟩ : TP)).2 = 2 := h2
            have hne : ¬ (enterV T P' V' (⟨p.a, p.g, p.s, p.m, p.z⟩ : TP)).2 = 0 := by rw [h2']; decide
            simp only [if_neg hne] at HC0
            simp only [h2'] at HC0
            have HEr := hide (HK2.out hB)
            clear h2 h2' hne hB HI
            generalize (enterV T P' V' (⟨p.a, p.g, p.s, p.m, p.z⟩ : TP)).1 = E1 at *
            have HC := hide HC0
            clear HC0
            go_wp2_with fail
            refine wp_region_reads (fun w' => w'.heap[bx]? = some (.cells #[.slice o1 T.length c1, .slice ox P'.length cx, .slice oy V'.length cy] 26) ∧ Tap5 w' (A.add (q * 5)) p) [0, 1, 2, 3, 4] 9 (by rfl) (by kernel_rfl) (by kernel_rfl) (by kernel_rfl) (fun c d v a w h => by cases d <;> exact h) ?_ ?_
            · exact ⟨row_onI HRow.out (Below.refl _ _).drew, HT5.out.below (Below.refl _ _).drew HT5.out.lt⟩
            refine wpPureH_step (lg o1 ox oy T.length c1 P'.length cx V'.length cy) rfl rfl (fun w' hS => ?_) ?_
            · have x0 := cell_of_row w' _ 0 _ _ _ hS.1
              have x1 := cell_of_row w' _ 1 _ _ _ hS.1
              have x2 := cell_of_row w' _ 2 _ _ _ hS.1
              simp at x0 x1 x2
              go_simp
            refine wpPureH_step (.slice (some A) Q.length cq) rfl rfl (fun w' hS => ?_) ?_
            · go_simp
            refine wpPureH_step (.int .i64 (q : Int)) rfl rfl (fun w' hS => ?_) ?_
            · go_simp
            refine wpPureH_step (.pointer (some (A.add (q * 5)))) rfl rfl (fun w' hS => ?_) ?_
            · go_simp
            refine wpPureH_step (tp p.a p.g p.s p.m p.z) rfl rfl (fun w' hS => ?_) ?_
            · obtain ⟨-, c0, c1', c2', c3', c4'⟩ := hS
              go_simp
            refine wpPureH_nil ?_
            have HBd := hide ((Below.refl wr.heap.size wr).drew)
            generalize wr.drew = wd at *
            refine two_readyH (i := 5) (j := 10) (by kernel_rfl) rfl rfl rfl rfl (fun K hK => ?_) (fun K hK => ?_)
            · go_simp
              refine (HC.out wd HBd.out).mono ?_
              rintro e w6 ⟨⟨v', rfl, v1, v2, v3, rfl, ⟨b1, y1', rfl, -⟩, ⟨b2, y2', rfl, -⟩, ⟨b3, y3', rfl, -⟩⟩, hbd⟩
              have HB6 := hide (HBd.out.trans (hbd.mono HBd.out.size))
              refine hK _ _ ⟨row_onI HRow.out HB6.out, HT5.out.below HB6.out HT5.out.lt⟩ ?_
              clear hK K hbd HBd
              refine takesH (fuel := 4) (by kernel_rfl) (fun c d v a w h => by cases d <;> exact h) ⟨row_onI HRow.out HB6.out, HT5.out.below HB6.out HT5.out.lt⟩ [6, 7, 8, 9] _ _ (by kernel_rfl) ?_
              refine wpPureH_step (.tuple #[lg b1 b2 b3 0 y1' 0 y2' 0 y3', .int .i64 E1, .int .i64 2]) rfl rfl (fun w' _ => by go_simp) ?_
              refine wpPureH_step (lg b1 b2 b3 0 y1' 0 y2' 0 y3') rfl rfl (fun w' _ => by go_simp) ?_
              refine wpPureH_step (.int .i64 E1) rfl rfl (fun w' _ => by go_simp) ?_
              refine wpPureH_step (.int .i64 2) rfl rfl (fun w' _ => by go_simp) ?_
              refine wpPureH_nil ?_
              refine one_readyH (i := 10) (by kernel_rfl) rfl rfl (fun K hK => ?_)
              go_simp
              have hbd := (Below.refl w6.heap.size w6).alloc (Nat.le_refl _) (cL none none none 0 0 0 0 0 0 26)
              have hrow : (w6.alloc (cL none none none 0 0 0 0 0 0 26)).heap[w6.heap.size]? = some (cL none none none 0 0 0 0 0 0 26) := heap_alloc_new' _ _ _ rfl
              have HBw := hide (HB6.out.trans (hbd.mono HB6.out.size))
              have hby : wr.heap.size ≤ w6.heap.size := HB6.out.size
              refine hK _ _ ⟨row_onI HRow.out HBw.out, HT5.out.below HBw.out HT5.out.lt⟩ ?_
              clear hK K hbd HB6
              generalize w6.alloc (cL none none none 0 0 0 0 0 0 26) = wz at *
              generalize w6.heap.size = by' at *
              have r0 := cell_of_row wz _ 0 _ _ _ hrow
              have r1 := cell_of_row wz _ 1 _ _ _ hrow
              have r2 := cell_of_row wz _ 2 _ _ _ hrow
              have s0 := frozen_of_row wz _ 0 _ _ hrow
              have s1 := frozen_of_row wz _ 1 _ _ hrow
              have s2 := frozen_of_row wz _ 2 _ _ hrow
              simp at r0 r1 r2
              clear hrow
              have HBg := hide (((HBw.out.setCell (p := ⟨by', 0, none⟩) hby (.slice b1 0 y1')).setCell (p := ⟨by', 1, none⟩) hby (.slice b2 0 y2')).setCell (p := ⟨by', 2, none⟩) hby (.slice b3 0 y3'))
              refine one_readyH (i := 11) (by kernel_rfl) rfl rfl (fun K hK => ?_)
              go_simp
              have y0 : (((wz.setCell ⟨by', 0, none⟩ (.slice b1 0 y1')).setCell ⟨by', 1, none⟩ (.slice b2 0 y2')).setCell ⟨by', 2, none⟩ (.slice b3 0 y3')).cell? ⟨by', 0, none⟩ = some (.slice b1 0 y1') := by simp [go_sem, r0]
              have y1 : (((wz.setCell ⟨by', 0, none⟩ (.slice b1 0 y1')).setCell ⟨by', 1, none⟩ (.slice b2 0 y2')).setCell ⟨by', 2, none⟩ (.slice b3 0 y3')).cell? ⟨by', 1, none⟩ = some (.slice b2 0 y2') := by simp [go_sem, r1]
              have y2 : (((wz.setCell ⟨by', 0, none⟩ (.slice b1 0 y1')).setCell ⟨by', 1, none⟩ (.slice b2 0 y2')).setCell ⟨by', 2, none⟩ (.slice b3 0 y3')).cell? ⟨by', 2, none⟩ = some (.slice b3 0 y3') := by simp [go_sem, r2]
              refine hK _ _ ⟨row_onI HRow.out HBg.out, HT5.out.below HBg.out HT5.out.lt⟩ ?_
              clear hK K r0 r1 r2 s0 s1 s2 HBw
              generalize ((wz.setCell ⟨by', 0, none⟩ (.slice b1 0 y1')).setCell ⟨by', 1, none⟩ (.slice b2 0 y2')).setCell ⟨by', 2, none⟩ (.slice b3 0 y3') = wg at *
              refine one_readyH (i := 12) (by kernel_rfl) rfl rfl (fun K hK => ?_)
              go_simp
              refine hK _ _ ⟨row_onI HRow.out HBg.out, HT5.out.below HBg.out HT5.out.lt⟩ ?_
              clear hK K
              refine one_readyH (i := 13) (by kernel_rfl) rfl rfl (fun K hK => ?_)
              go_simp
              refine hK _ _ ⟨row_onI HRow.out HBg.out, HT5.out.below HBg.out HT5.out.lt⟩ ?_
              clear hK K
              refine wpAnyH_done (by kernel_rfl) ?_ _
              have HGg := hide (HGr.out.on HBg.out)
              have r0 := HGg.out.cell 1 0 (w.heap.size + 1) _ _ _ rfl rfl rfl
              have s0 := HGg.out.frozen 1 0 (w.heap.size + 1) _ _ rfl rfl
              have r1 := HGg.out.cell 1 1 (w.heap.size + 1) _ _ _ rfl rfl rfl
              have s1 := HGg.out.frozen 1 1 (w.heap.size + 1) _ _ rfl rfl
              have r2 := HGg.out.cell 1 2 (w.heap.size + 1) _ _ _ rfl rfl rfl
              have s2 := HGg.out.frozen 1 2 (w.heap.size + 1) _ _ rfl rfl
              have rl := HGg.out.lt 1 (w.heap.size + 1) (by simp) rfl
              go_wp2_with fail
              refine bodyPost_ret (v := .tuple #[lg none none none 0 0 0 0 0 0, .slice none 0 0, .int .i64 2]) (by simp [results, Try.results16, go_sem, *]) rfl ⟨⟨lg none none none 0 0 0 0 0 0, .slice none 0 0, by rw [HEr.out.1], by rw [HEr.out.2.1, HEr.out.2.2.1, HEr.out.2.2.2.1]; exact (ledN_none 0 _).ledV, by rw [HEr.out.2.2.2.2]; exact tapsV_nilO _⟩, ?_⟩
              repeat (first | exact HGg.out.2.2 | with_reducible refine Below.drew ?_ | with_reducible refine Below.setCell ?_ (by simp; try omega) _)
            · go_simp
              have hbz := (Below.refl wd.heap.size wd).alloc (Nat.le_refl _) (cL none none none 0 0 0 0 0 0 26)
              have hrow : (wd.alloc (cL none none none 0 0 0 0 0 0 26)).heap[wd.heap.size]? = some (cL none none none 0 0 0 0 0 0 26) := heap_alloc_new' _ _ _ rfl
              have HBz := hide (HBd.out.trans (hbz.mono HBd.out.size))
              have hby : wr.heap.size ≤ wd.heap.size := HBd.out.size
              refine hK _ _ ⟨row_onI HRow.out HBz.out, HT5.out.below HBz.out HT5.out.lt⟩ ?_
              clear hK K hbz HBd
              generalize wd.alloc (cL none none none 0 0 0 0 0 0 26) = wz at *
              generalize wd.heap.size = by' at *
              refine one_readyH (i := 5) (by kernel_rfl) rfl rfl (fun K hK => ?_)
              go_simp
              refine (HC.out wz HBz.out).mono ?_
              rintro e w6 ⟨⟨v', rfl, v1, v2, v3, rfl, ⟨b1, y1', rfl, -⟩, ⟨b2, y2', rfl, -⟩, ⟨b3, y3', rfl, -⟩⟩, hbd⟩
              have HB6 := hide (HBz.out.trans (hbd.mono HBz.out.size))
              have hrow := row_onI hrow hbd
              refine hK _ _ ⟨row_onI HRow.out HB6.out, HT5.out.below HB6.out HT5.out.lt⟩ ?_
              clear hK K hbd HBz
              refine takesH (fuel := 3) (by kernel_rfl) (fun c d v a w h => by cases d <;> exact h) ⟨row_onI HRow.out HB6.out, HT5.out.below HB6.out HT5.out.lt⟩ [6, 7, 8, 9] _ _ (by kernel_rfl) ?_
              refine wpPureH_step (.tuple #[lg b1 b2 b3 0 y1' 0 y2' 0 y3', .int .i64 E1, .int .i64 2]) rfl rfl (fun w' _ => by go_simp) ?_
              refine wpPureH_step (lg b1 b2 b3 0 y1' 0 y2' 0 y3') rfl rfl (fun w' _ => by go_simp) ?_
              refine wpPureH_step (.int .i64 E1) rfl rfl (fun w' _ => by go_simp) ?_
              refine wpPureH_step (.int .i64 2) rfl rfl (fun w' _ => by go_simp) ?_
              refine wpPureH_nil ?_
              have HBw := HB6
              have r0 := cell_of_row w6 _ 0 _ _ _ hrow
              have r1 := cell_of_row w6 _ 1 _ _ _ hrow
              have r2 := cell_of_row w6 _ 2 _ _ _ hrow
              have s0 := frozen_of_row w6 _ 0 _ _ hrow
              have s1 := frozen_of_row w6 _ 1 _ _ hrow
              have s2 := frozen_of_row w6 _ 2 _ _ hrow
              simp at r0 r1 r2
              clear hrow
              have HBg := hide (((HBw.out.setCell (p := ⟨by', 0, none⟩) hby (.slice b1 0 y1')).setCell (p := ⟨by', 1, none⟩) hby (.slice b2 0 y2')).setCell (p := ⟨by', 2, none⟩) hby (.slice b3 0 y3'))
              refine one_readyH (i := 11) (by kernel_rfl) rfl rfl (fun K hK => ?_)
              go_simp
              have y0 : (((w6.setCell ⟨by', 0, none⟩ (.slice b1 0 y1')).setCell ⟨by', 1, none⟩ (.slice b2 0 y2')).setCell ⟨by', 2, none⟩ (.slice b3 0 y3')).cell? ⟨by', 0, none⟩ = some (.slice b1 0 y1') := by simp [go_sem, r0]
              have y1 : (((w6.setCell ⟨by', 0, none⟩ (.slice b1 0 y1')).setCell ⟨by', 1, none⟩ (.slice b2 0 y2')).setCell ⟨by', 2, none⟩ (.slice b3 0 y3')).cell? ⟨by', 1, none⟩ = some (.slice b2 0 y2') := by simp [go_sem, r1]
              have y2 : (((w6.setCell ⟨by', 0, none⟩ (.slice b1 0 y1')).setCell ⟨by', 1, none⟩ (.slice b2 0 y2')).setCell ⟨by', 2, none⟩ (.slice b3 0 y3')).cell? ⟨by', 2, none⟩ = some (.slice b3 0 y3') := by simp [go_sem, r2]
              refine hK _ _ ⟨row_onI HRow.out HBg.out, HT5.out.below HBg.out HT5.out.lt⟩ ?_
              clear hK K r0 r1 r2 s0 s1 s2 HBw
              generalize ((w6.setCell ⟨by', 0, none⟩ (.slice b1 0 y1')).setCell ⟨by', 1, none⟩ (.slice b2 0 y2')).setCell ⟨by', 2, none⟩ (.slice b3 0 y3') = wg at *
              refine one_readyH (i := 12) (by kernel_rfl) rfl rfl (fun K hK => ?_)
              go_simp
              refine hK _ _ ⟨row_onI HRow.out HBg.out, HT5.out.below HBg.out HT5.out.lt⟩ ?_
              clear hK K
              refine one_readyH (i := 13) (by kernel_rfl) rfl rfl (fun K hK => ?_)
              go_simp
              refine hK _ _ ⟨row_onI HRow.out HBg.out, HT5.out.below HBg.out HT5.out.lt⟩ ?_
              clear hK K
              refine wpAnyH_done (by kernel_rfl) ?_ _
              have HGg := hide (HGr.out.on HBg.out)
              have r0 := HGg.out.cell 1 0 (w.heap.size + 1) _ _ _ rfl rfl rfl
              have s0 := HGg.out.frozen 1 0 (w.heap.size + 1) _ _ rfl rfl
              have r1 := HGg.out.cell 1 1 (w.heap.size + 1) _ _ _ rfl rfl rfl
              have s1 := HGg.out.frozen 1 1 (w.heap.size + 1) _ _ rfl rfl
              have r2 := HGg.out.cell 1 2 (w.heap.size + 1) _ _ _ rfl rfl rfl
              have s2 := HGg.out.frozen 1 2 (w.heap.size + 1) _ _ rfl rfl
              have rl := HGg.out.lt 1 (w.heap.size + 1) (by simp) rfl
              go_wp2_with fail
              refine bodyPost_ret (v := .tuple #[lg none none none 0 0 0 0 0 0, .slice none 0 0, .int .i64 2]) (by simp [results, Try.results16, go_sem, *]) rfl ⟨⟨lg none none none 0 0 0 0 0 0, .slice none 0 0, by rw [HEr.out.1], by rw [HEr.out.2.1, HEr.out.2.2.1, HEr.out.2.2.2.1]; exact (ledN_none 0 _).ledV, by rw [HEr.out.2.2.2.2]; exact tapsV_nilO _⟩, ?_⟩
              repeat (first | exact HGg.out.2.2 | with_reducible refine Below.drew ?_ | with_reducible refine Below.setCell ?_ (by simp; try omega) _)
          · have hne : ¬ (enterV T P' V' (⟨p.a, p.g, p.s, p.m, p.z⟩ : TP)).2 = 0 := hn0
            have hc0 : ((enterV T P' V' (⟨p.a, p.g, p.s, p.m, p.z⟩ : TP)).2 == 0) = false := by simpa using hne
            have hc2 : ((enterV T P' V' (⟨p.a, p.g, p.s, p.m, p.z⟩ : TP)).2 == 2) = false := by simpa using (show ¬ (enterV T P' V' (⟨p.a, p.g, p.s, p.m, p.z⟩ : TP)).2 = 2 from hn2)
            simp only [if_neg hne] at HC0
            clear hn0 hn2 hne HI
            generalize (enterV T P' V' (⟨p.a, p.g, p.s, p.m, p.z⟩ : TP)).1 = E1 at *
            generalize (enterV T P' V' (⟨p.a, p.g, p.s, p.m, p.z⟩ : TP)).2 = E2 at *
            have HC := hide HC0
            have HA := hide hA
            clear HC0 hA
            go_wp2_with fail
            refine wp_region_reads (fun w' => w'.heap[bx]? = some (.cells #[.slice o1 T.length c1, .slice ox P'.length cx, .slice oy V'.length cy] 26) ∧ Tap5 w' (A.add (q * 5)) p) [0, 1, 2, 3, 4] 9 (by rfl) (by kernel_rfl) (by kernel_rfl) (by kernel_rfl) (fun c d v a w h => by cases d <;> exact h) ?_ ?_
            · exact ⟨row_onI HRow.out (Below.refl _ _).drew, HT5.out.below (Below.refl _ _).drew HT5.out.lt⟩
            refine wpPureH_step (lg o1 ox oy T.length c1 P'.length cx V'.length cy) rfl rfl (fun w' hS => ?_) ?_
            · have x0 := cell_of_row w' _ 0 _ _ _ hS.1
              have x1 := cell_of_row w' _ 1 _ _ _ hS.1
              have x2 := cell_of_row w' _ 2 _ _ _ hS.1
              simp at x0 x1 x2
              go_simp
            refine wpPureH_step (.slice (some A) Q.length cq) rfl rfl (fun w' hS => ?_) ?_
            · go_simp
            refine wpPureH_step (.int .i64 (q : Int)) rfl rfl (fun w' hS => ?_) ?_
            · go_simp
            refine wpPureH_step (.pointer (some (A.add (q * 5)))) rfl rfl (fun w' hS => ?_) ?_
            · go_simp
            refine wpPureH_step (tp p.a p.g p.s p.m p.z) rfl rfl (fun w' hS => ?_) ?_
            · obtain ⟨-, c0, c1', c2', c3', c4'⟩ := hS
              go_simp
            refine wpPureH_nil ?_
            have HBd := hide ((Below.refl wr.heap.size wr).drew)
            generalize wr.drew = wd at *
            refine two_readyH (i := 5) (j := 10) (by kernel_rfl) rfl rfl rfl rfl (fun K hK => ?_) (fun K hK => ?_)
            · go_simp
              refine (HC.out wd HBd.out).mono ?_
              rintro e w6 ⟨⟨v', rfl, v1, v2, v3, rfl, ⟨b1, y1', rfl, -⟩, ⟨b2, y2', rfl, -⟩, ⟨b3, y3', rfl, -⟩⟩, hbd⟩
              have HB6 := hide (HBd.out.trans (hbd.mono HBd.out.size))
              refine hK _ _ ⟨row_onI HRow.out HB6.out, HT5.out.below HB6.out HT5.out.lt⟩ ?_
              clear hK K hbd HBd
              refine takesH (fuel := 4) (by kernel_rfl) (fun c d v a w h => by cases d <;> exact h) ⟨row_onI HRow.out HB6.out, HT5.out.below HB6.out HT5.out.lt⟩ [6, 7, 8, 9] _ _ (by kernel_rfl) ?_
              refine wpPureH_step (.tuple #[lg b1 b2 b3 0 y1' 0 y2' 0 y3', .int .i64 E1, .int .i64 E2]) rfl rfl (fun w' _ => by go_simp) ?_
              refine wpPureH_step (lg b1 b2 b3 0 y1' 0 y2' 0 y3') rfl rfl (fun w' _ => by go_simp) ?_
              refine wpPureH_step (.int .i64 E1) rfl rfl (fun w' _ => by go_simp) ?_
              refine wpPureH_step (.int .i64 E2) rfl rfl (fun w' _ => by go_simp) ?_
              refine wpPureH_nil ?_
              refine one_readyH (i := 10) (by kernel_rfl) rfl rfl (fun K hK => ?_)
              go_simp
              have hbd := (Below.refl w6.heap.size w6).alloc (Nat.le_refl _) (cL none none none 0 0 0 0 0 0 26)
              have hrow : (w6.alloc (cL none none none 0 0 0 0 0 0 26)).heap[w6.heap.size]? = some (cL none none none 0 0 0 0 0 0 26) := heap_alloc_new' _ _ _ rfl
              have HBw := hide (HB6.out.trans (hbd.mono HB6.out.size))
              have hby : wr.heap.size ≤ w6.heap.size := HB6.out.size
              refine hK _ _ ⟨row_onI HRow.out HBw.out, HT5.out.below HBw.out HT5.out.lt⟩ ?_
              clear hK K hbd HB6
              generalize w6.alloc (cL none none none 0 0 0 0 0 0 26) = wz at *
              generalize w6.heap.size = by' at *
              have r0 := cell_of_row wz _ 0 _ _ _ hrow
              have r1 := cell_of_row wz _ 1 _ _ _ hrow
              have r2 := cell_of_row wz _ 2 _ _ _ hrow
              have s0 := frozen_of_row wz _ 0 _ _ hrow
              have s1 := frozen_of_row wz _ 1 _ _ hrow
              have s2 := frozen_of_row wz _ 2 _ _ hrow
              simp at r0 r1 r2
              clear hrow
              have HBg := hide (((HBw.out.setCell (p := ⟨by', 0, none⟩) hby (.slice b1 0 y1')).setCell (p := ⟨by', 1, none⟩) hby (.slice b2 0 y2')).setCell (p := ⟨by', 2, none⟩) hby (.slice b3 0 y3'))
              refine one_readyH (i := 11) (by kernel_rfl) rfl rfl (fun K hK => ?_)
              go_simp
              have y0 : (((wz.setCell ⟨by', 0, none⟩ (.slice b1 0 y1')).setCell ⟨by', 1, none⟩ (.slice b2 0 y2')).setCell ⟨by', 2, none⟩ (.slice b3 0 y3')).cell? ⟨by', 0, none⟩ = some (.slice b1 0 y1') := by simp [go_sem, r0]
              have y1 : (((wz.setCell ⟨by', 0, none⟩ (.slice b1 0 y1')).setCell ⟨by', 1, none⟩ (.slice b2 0 y2')).setCell ⟨by', 2, none⟩ (.slice b3 0 y3')).cell? ⟨by', 1, none⟩ = some (.slice b2 0 y2') := by simp [go_sem, r1]
              have y2 : (((wz.setCell ⟨by', 0, none⟩ (.slice b1 0 y1')).setCell ⟨by', 1, none⟩ (.slice b2 0 y2')).setCell ⟨by', 2, none⟩ (.slice b3 0 y3')).cell? ⟨by', 2, none⟩ = some (.slice b3 0 y3') := by simp [go_sem, r2]
              refine hK _ _ ⟨row_onI HRow.out HBg.out, HT5.out.below HBg.out HT5.out.lt⟩ ?_
              clear hK K r0 r1 r2 s0 s1 s2 HBw
              generalize ((wz.setCell ⟨by', 0, none⟩ (.slice b1 0 y1')).setCell ⟨by', 1, none⟩ (.slice b2 0 y2')).setCell ⟨by', 2, none⟩ (.slice b3 0 y3') = wg at *
              refine one_readyH (i := 12) (by kernel_rfl) rfl rfl (fun K hK => ?_)
              go_simp
              refine hK _ _ ⟨row_onI HRow.out HBg.out, HT5.out.below HBg.out HT5.out.lt⟩ ?_
              clear hK K
              refine one_readyH (i := 13) (by kernel_rfl) rfl rfl (fun K hK => ?_)
              go_simp
              refine hK _ _ ⟨row_onI HRow.out HBg.out, HT5.out.below HBg.out HT5.out.lt⟩ ?_
              clear hK K
              refine wpAnyH_done (by kernel_rfl) ?_ _
              have HSg := hide (HS.out.on HBg.out)
              have hT5 := HT5.out.below HBg.out HT5.out.lt
              obtain ⟨c0, c1', c2', c3', c4'⟩ := hT5
              have hA : (A.add (q * 5)).block < wg.heap.size := World.block_lt_of_cell? wg (A.add (q * 5)) c0
              have HN := hide (five_new wg p.a p.g p.s p.m p.z 28)
              have HSa := hide (HSg.out.on ((Below.refl wg.heap.size wg).alloc (Nat.le_refl _) (cP p.a p.g p.s p.m p.z 28)))
              have hbs := HSg.out.2.1
              obtain ⟨-, -, -, -, -, -, -, -, -, -, -, ho6, -⟩ := HSa.out
              have HO6 := hide ho6
              have hDl := HDl.out
              clear ho6
              go_wp2_with (at_builtin; refine wpList_append_tapB rfl _ _ rfl (bx + 1) _ D' p rfl HO6.out ⟨wg.heap.size, 0, none⟩ rfl HN.out (by omega) (by simp; omega) ?_; intro v1 w1 hown1 hgrow1 hv1; have HS2 := hide (HSa.out.told hown1 hgrow1 hv1); clear hown1 hgrow1 hv1)
              exact ⟨⟨q + 1, _, _, _, by omega, by simp, HA, HS2⟩, by simp [intOf]; omega⟩
            · go_simp
              have hbz := (Below.refl wd.heap.size wd).alloc (Nat.le_refl _) (cL none none none 0 0 0 0 0 0 26)
              have hrow : (wd.alloc (cL none none none 0 0 0 0 0 0 26)).heap[wd.heap.size]? = some (cL none none none 0 0 0 0 0 0 26) := heap_alloc_new' _ _ _ rfl
              have HBz := hide (HBd.out.trans (hbz.mono HBd.out.size))
              have hby : wr.heap.size ≤ wd.heap.size := HBd.out.size
              refine hK _ _ ⟨row_onI HRow.out HBz.out, HT5.out.below HBz.out HT5.out.lt⟩ ?_
              clear hK K hbz HBd
              generalize wd.alloc (cL none none none 0 0 0 0 0 0 26) = wz at *
              generalize wd.heap.size = by' at *
              refine one_readyH (i := 5) (by kernel_rfl) rfl rfl (fun K hK => ?_)
              go_simp
              refine (HC.out wz HBz.out).mono ?_
              rintro e w6 ⟨⟨v', rfl, v1, v2, v3, rfl, ⟨b1, y1', rfl, -⟩, ⟨b2, y2', rfl, -⟩, ⟨b3, y3', rfl, -⟩⟩, hbd⟩
              have HB6 := hide (HBz.out.trans (hbd.mono HBz.out.size))
              have hrow := row_onI hrow hbd
              refine hK _ _ ⟨row_onI HRow.out HB6.out, HT5.out.below HB6.out HT5.out.lt⟩ ?_
              clear hK K hbd HBz
              refine takesH (fuel := 3) (by kernel_rfl) (fun c d v a w h => by cases d <;> exact h) ⟨row_onI HRow.out HB6.out, HT5.out.below HB6.out HT5.out.lt⟩ [6, 7, 8, 9] _ _ (by kernel_rfl) ?_
              refine wpPureH_step (.tuple #[lg b1 b2 b3 0 y1' 0 y2' 0 y3', .int .i64 E1, .int .i64 E2]) rfl rfl (fun w' _ => by go_simp) ?_
              refine wpPureH_step (lg b1 b2 b3 0 y1' 0 y2' 0 y3') rfl rfl (fun w' _ => by go_simp) ?_
              refine wpPureH_step (.int .i64 E1) rfl rfl (fun w' _ => by go_simp) ?_
              refine wpPureH_step (.int .i64 E2) rfl rfl (fun w' _ => by go_simp) ?_
              refine wpPureH_nil ?_
              have HBw := HB6
              have r0 := cell_of_row w6 _ 0 _ _ _ hrow
              have r1 := cell_of_row w6 _ 1 _ _ _ hrow
              have r2 := cell_of_row w6 _ 2 _ _ _ hrow
              have s0 := frozen_of_row w6 _ 0 _ _ hrow
              have s1 := frozen_of_row w6 _ 1 _ _ hrow
              have s2 := frozen_of_row w6 _ 2 _ _ hrow
              simp at r0 r1 r2
              clear hrow
              have HBg := hide (((HBw.out.setCell (p := ⟨by', 0, none⟩) hby (.slice b1 0 y1')).setCell (p := ⟨by', 1, none⟩) hby (.slice b2 0 y2')).setCell (p := ⟨by', 2, none⟩) hby (.slice b3 0 y3'))
              refine one_readyH (i := 11) (by kernel_rfl) rfl rfl (fun K hK => ?_)
              go_simp
              have y0 : (((w6.setCell ⟨by', 0, none⟩ (.slice b1 0 y1')).setCell ⟨by', 1, none⟩ (.slice b2 0 y2')).setCell ⟨by', 2, none⟩ (.slice b3 0 y3')).cell? ⟨by', 0, none⟩ = some (.slice b1 0 y1') := by simp [go_sem, r0]
              have y1 : (((w6.setCell ⟨by', 0, none⟩ (.slice b1 0 y1')).setCell ⟨by', 1, none⟩ (.slice b2 0 y2')).setCell ⟨by', 2, none⟩ (.slice b3 0 y3')).cell? ⟨by', 1, none⟩ = some (.slice b2 0 y2') := by simp [go_sem, r1]
              have y2 : (((w6.setCell ⟨by', 0, none⟩ (.slice b1 0 y1')).setCell ⟨by', 1, none⟩ (.slice b2 0 y2')).setCell ⟨by', 2, none⟩ (.slice b3 0 y3')).cell? ⟨by', 2, none⟩ = some (.slice b3 0 y3') := by simp [go_sem, r2]
              refine hK _ _ ⟨row_onI HRow.out HBg.out, HT5.out.below HBg.out HT5.out.lt⟩ ?_
              clear hK K r0 r1 r2 s0 s1 s2 HBw
              generalize ((w6.setCell ⟨by', 0, none⟩ (.slice b1 0 y1')).setCell ⟨by', 1, none⟩ (.slice b2 0 y2')).setCell ⟨by', 2, none⟩ (.slice b3 0 y3') = wg at *
              refine one_readyH (i := 12) (by kernel_rfl) rfl rfl (fun K hK => ?_)
              go_simp
              refine hK _ _ ⟨row_onI HRow.out HBg.out, HT5.out.below HBg.out HT5.out.lt⟩ ?_
              clear hK K
              refine one_readyH (i := 13) (by kernel_rfl) rfl rfl (fun K hK => ?_)
              go_simp
              refine hK _ _ ⟨row_onI HRow.out HBg.out, HT5.out.below HBg.out HT5.out.lt⟩ ?_
              clear hK K
              refine wpAnyH_done (by kernel_rfl) ?_ _
              have HSg := hide (HS.out.on HBg.out)
              have hT5 := HT5.out.below HBg.out HT5.out.lt
              obtain ⟨c0, c1', c2', c3', c4'⟩ := hT5
              have hA : (A.add (q * 5)).block < wg.heap.size := World.block_lt_of_cell? wg (A.add (q * 5)) c0
              have HN := hide (five_new wg p.a p.g p.s p.m p.z 28)
              have HSa := hide (HSg.out.on ((Below.refl wg.heap.size wg).alloc (Nat.le_refl _) (cP p.a p.g p.s p.m p.z 28)))
              have hbs := HSg.out.2.1
              obtain ⟨-, -, -, -, -, -, -, -, -, -, -, ho6, -⟩ := HSa.out
              have HO6 := hide ho6
              have hDl := HDl.out
              clear ho6
              go_wp2_with (at_builtin; refine wpList_append_tapB rfl _ _ rfl (bx + 1) _ D' p rfl HO6.out ⟨wg.heap.size, 0, none⟩ rfl HN.out (by omega) (by simp; omega) ?_; intro v1 w1 hown1 hgrow1 hv1; have HS2 := hide (HSa.out.told hown1 hgrow1 hv1); clear hown1 hgrow1 hv1)
              exact ⟨⟨q + 1, _, _, _, by omega, by simp, HA, HS2⟩, by simp [intOf]; omega⟩
        · obtain rfl : q = Q.length := by omega
          have hbb := HI.out
          rw [List.take_length] at hbb
          have HEr := hide (HK3.out P' V' D' hbb)
          obtain ⟨-, hbl, ox, nx, cx, oy, ny, cy, hrow0, hPl, hVl, hown, -⟩ := HS.out
          obtain ⟨od, cd, rfl, -, -⟩ := own_sliceB hown
          have HPl := hide hPl
          have HVl := hide hVl
          have HDv := hide (tapsV_own hown)
          have x0 := cell_of_row wr _ 0 _ _ _ hrow0
          have x1 := cell_of_row wr _ 1 _ _ _ hrow0
          have x2 := cell_of_row wr _ 2 _ _ _ hrow0
          simp at x0 x1 x2
          have r0 := HGr.out.cell 1 0 (w.heap.size + 1) _ _ _ rfl rfl rfl
          have s0 := HGr.out.frozen 1 0 (w.heap.size + 1) _ _ rfl rfl
          have r1 := HGr.out.cell 1 1 (w.heap.size + 1) _ _ _ rfl rfl rfl
          have s1 := HGr.out.frozen 1 1 (w.heap.size + 1) _ _ rfl rfl
          have r2 := HGr.out.cell 1 2 (w.heap.size + 1) _ _ _ rfl rfl rfl
          have s2 := HGr.out.frozen 1 2 (w.heap.size + 1) _ _ rfl rfl
          have rl := HGr.out.lt 1 (w.heap.size + 1) (by simp) rfl
          clear hbb hrow0 hPl hVl hown HI HS
          go_wp2_with fail
          have HBl := hide (((HGr.out.2.2.setCell (p := ⟨w.heap.size + 1, 0, none⟩) (by simp) (.slice o1 T.length c1)).setCell (p := ⟨w.heap.size + 1, 1, none⟩) (by simp) (.slice ox nx cx)).setCell (p := ⟨w.heap.size + 1, 2, none⟩) (by simp) (.slice oy ny cy))
          refine bodyPost_ret (v := .tuple #[lg o1 ox oy T.length c1 nx cx ny cy, .slice od D'.length cd, .int .i64 0]) (by simp [results, Try.results16, go_sem, *]) rfl ⟨⟨lg o1 ox oy T.length c1 nx cx ny cy, .slice od D'.length cd, by rw [HEr.out.1], ?_, ?_⟩, HBl.out⟩
          · rw [HEr.out.2.1, HEr.out.2.2.1, HEr.out.2.2.2.1]
            exact ⟨_, _, _, rfl, (HLed.out.below HBl.out).parts3.1, ((HPl.out.setSl r0 _).setSl (cell_other1I r1 (by simp)) _).setSl (cell_other1I (cell_other1I r2 (by simp)) (by simp)) _, ((HVl.out.setSl r0 _).setSl (cell_other1I r1 (by simp)) _).setSl (cell_other1I (cell_other1I r2 (by simp)) (by simp)) _⟩
          · rw [HEr.out.2.2.2.2]
            exact ((HDv.out.setSl r0 _).setSl (cell_other1I r1 (by simp)) _).setSl (cell_other1I (cell_other1I r2 (by simp)) (by simp)) _

theorem TiksV.setSl {w : World} {v : Value} {T : List TK} (h : TiksV w v T) {b : Addr} {o : Option Addr} {n c : Nat} (hb : w.cell? b = some (.slice o n c)) (u : Value) : TiksV (w.setCell b u) v T := by
  obtain ⟨o2, c2, rfl, a2, l2⟩ := h
  refine ⟨o2, c2, rfl, fun i p hi => ?_, l2⟩
  obtain ⟨d, e, z0, z1, z2, z3, z4, z5⟩ := a2 i p hi
  exact ⟨d, e, cell_set_otherI z0 hb (by simp), cell_set_otherI z1 hb (by simp), cell_set_otherI z2 hb (by simp), cell_set_otherI z3 hb (by simp), cell_set_otherI z4 hb (by simp), cell_set_otherI z5 hb (by simp)⟩

theorem LedV.setSl {w : World} {v : Value} {T : List TK} {P : List TP} {V : List Int} (h : LedV w v T P V) {b : Addr} {o : Option Addr} {n c : Nat} (hb : w.cell? b = some (.slice o n c)) (u : Value) : LedV (w.setCell b u) v T P V := by
  obtain ⟨v1, v2, v3, rfl, h1, h2, h3⟩ := h
  exact ⟨v1, v2, v3, rfl, h1.setSl hb u, h2.setSl hb u, h3.setSl hb u⟩

set_option maxHeartbeats 1600000 in
set_option maxRecDepth 100000 in
theorem tapsAre_any {w : World} {o o' : Option Addr} {n c n' c' : Nat} {L L' : List TP} (h : TapsV w (.slice o n c) L) (h' : TapsV w (.slice o' n' c') L') (E : Int) (hl : L.length ≤ 100) (_hl' : L'.length ≤ 100) (he : E ≠ 0 → L = []) (hk : E = 0 → L' = L) :
    Calls Try.prog 17 #[.slice o n c, .int .i64 E, .int .i64 E, .slice o' n' c'] w fun e w' => e = .returned (.bool true) ∧ Below w.heap.size w w' := by
  rcases hE : (E != 0) with _ | _
  · obtain rfl := hk (by simpa using hE)
    obtain ⟨rfl, h1, -⟩ := h.eqs
    obtain ⟨rfl, h2, -⟩ := h'.eqs
    have HS := hide (sameTaps_same L' o o' c c' w h1 h2 hl)
    clear h h' h1 h2
    go_enter Try.func17, Try.ntmps17
    go_wp2_with fail
    refine HS.out.mono ?_
    rintro e w1 ⟨rfl, hb⟩
    go_wp2_with fail
    go_ret
    exact ⟨rfl, hb⟩
  · obtain rfl := he (by simpa using hE)
    obtain ⟨rfl, h1, -⟩ := h.eqs
    have HS := hide (sameTaps_same [] o none c 0 w h1 (fun i p h => by simp at h) (by simp))
    clear h h' h1
    go_enter Try.func17, Try.ntmps17
    go_wp2_with fail
    refine HS.out.mono ?_
    rintro e w1 ⟨rfl, hb⟩
    go_wp2_with fail
    go_ret
    exact ⟨rfl, hb⟩

theorem same_ledT {w : World} {x y : Value} {T : List TK} {P : List TP} {V : List Int} (hx : LedV w x T P V) (hy : LedV w y T P V) (l1 : T.length ≤ 100) (l2 : P.length ≤ 100) (l3 : V.length ≤ 100) : Calls Try.prog 19 #[x, y] w fun e w' => e = .returned (.bool true) ∧ Below w.heap.size w w' := by
  obtain ⟨o1, c1, o2, c2, o3, c3, rfl, a1, a2, a3, -⟩ := hx.opened
  obtain ⟨q1, d1, q2, d2, q3, d3, rfl, b1, b2, b3, -⟩ := hy.opened
  exact sameLedger_same T P V o1 o2 o3 q1 q2 q3 c1 c2 c3 d1 d2 d3 w a1 a2 a3 b1 b2 b3 l1 l2 l3

set_option maxHeartbeats 1600000 in
set_option maxRecDepth 100000 in
theorem ledgerIs_ok {w : World} {T : List TK} {P : List TP} {V : List Int} {o1 o2 o3 q1 q2 q3 : Option Addr} {n1 c1 n2 c2 n3 c3 m1 d1 m2 d2 m3 d3 : Nat} (hx : LedV w (lg o1 o2 o3 n1 c1 n2 c2 n3 c3) T P V) (hy : LedV w (lg q1 q2 q3 m1 d1 m2 d2 m3 d3) T P V) (l1 : T.length ≤ 100) (l2 : P.length ≤ 100) (l3 : V.length ≤ 100) :
    Calls Try.prog 18 #[lg o1 o2 o3 n1 c1 n2 c2 n3 c3, .int .i64 0, .int .i64 0, lg q1 q2 q3 m1 d1 m2 d2 m3 d3] w fun e w' => e = .returned (.bool true) ∧ Below w.heap.size w w' := by
  have HX := hide hx
  have HY := hide hy
  clear hx hy
  go_enter Try.func18, Try.ntmps18
  go_wp2_with fail
  have HG1 := hide (((Blks.nil w).more (.cells #[.slice o1 n1 c1, .slice o2 n2 c2, .slice o3 n3 c3] 26) (by simp)).more (.cells #[.slice q1 m1 d1, .slice q2 m2 d2, .slice q3 m3 d3] 26) (by simp))
  refine (same_ledT (HX.out.below HG1.out.2.2) (HY.out.below HG1.out.2.2) l1 l2 l3).mono ?_
  rintro e w1 ⟨rfl, hb⟩
  have HB := hide (HG1.out.on hb)
  clear hb HG1
  go_wp2_with fail
  go_ret
  exact ⟨rfl, HB.out.2.2⟩

set_option maxHeartbeats 1600000 in
set_option maxRecDepth 100000 in
theorem ledgerIs_err {w : World} {o1 o2 o3 q1 q2 q3 : Option Addr} {n1 c1 n2 c2 n3 c3 m1 d1 m2 d2 m3 d3 : Nat} (hx : LedV w (lg o1 o2 o3 n1 c1 n2 c2 n3 c3) [] [] []) (x : Int) (hx0 : x ≠ 0) :
    Calls Try.prog 18 #[lg o1 o2 o3 n1 c1 n2 c2 n3 c3, .int .i64 x, .int .i64 x, lg q1 q2 q3 m1 d1 m2 d2 m3 d3] w fun e w' => e = .returned (.bool true) ∧ Below w.heap.size w w' := by
  have HX := hide hx
  have h1 : (x != 0) = true := by simpa using hx0
  clear hx hx0
  go_enter Try.func18, Try.ntmps18
  go_wp2_with fail
  have HG1 := hide (((Blks.nil w).more (.cells #[.slice o1 n1 c1, .slice o2 n2 c2, .slice o3 n3 c3] 26) (by simp)).more (.cells #[.slice none 0 0, .slice none 0 0, .slice none 0 0] 26) (by simp))
  refine (same_ledT (HX.out.below HG1.out.2.2) (ledN_none 0 _).ledV (by simp) (by simp) (by simp)).mono ?_
  rintro e w1 ⟨rfl, hb⟩
  have HB := hide (HG1.out.on hb)
  clear hb HG1
  go_wp2_with fail
  go_ret
  exact ⟨rfl, HB.out.2.2⟩

theorem ledV_nils {w : World} {v : Value} {T : List TK} {P : List TP} {V : List Int} (h : LedV w v T P V) (h1 : T = []) (h2 : P = []) (h3 : V = []) : LedV w v [] [] [] := by
  subst h1 h2 h3
  exact h

/-- a ledger in a box, what lies in it, and two lists -/
def MTa (w W : World) (o1 o2 o3 : Option Addr) (nt c1 np c2 nv c3 : Nat) (ba : Nat) (a1 a2 a3 : Option Addr) (m1 x1 m2 x2 m3 x3 : Nat) (T2 : List TK) (P2 : List TP) (V2 : List Int) (od : Option Addr) (cd : Nat) (D : List TP) (oo : Option Addr) (co : Nat) (R : List TP) : Prop :=
  Blks w W [.cells #[.slice o1 nt c1, .slice o2 np c2, .slice o3 nv c3] 26] ∧ Led3 W ba a1 a2 a3 m1 x1 m2 x2 m3 x3 ∧ LedV W (lg a1 a2 a3 m1 x1 m2 x2 m3 x3) T2 P2 V2 ∧ TapsV W (.slice od D.length cd) D ∧ TapsV W (.slice oo R.length co) R

theorem MTa.on {w W W' : World} {o1 o2 o3 : Option Addr} {nt c1 np c2 nv c3 : Nat} {ba : Nat} {a1 a2 a3 : Option Addr} {m1 x1 m2 x2 m3 x3 : Nat} {T2 : List TK} {P2 : List TP} {V2 : List Int} {od : Option Addr} {cd : Nat} {D : List TP} {oo : Option Addr} {co : Nat} {R : List TP}
    (h : MTa w W o1 o2 o3 nt c1 np c2 nv c3 ba a1 a2 a3 m1 x1 m2 x2 m3 x3 T2 P2 V2 od cd D oo co R) (hb : Below W.heap.size W W') : MTa w W' o1 o2 o3 nt c1 np c2 nv c3 ba a1 a2 a3 m1 x1 m2 x2 m3 x3 T2 P2 V2 od cd D oo co R :=
  ⟨h.1.on hb, h.2.1.below hb h.2.1.lt, h.2.2.1.below hb, h.2.2.2.1.below hb, h.2.2.2.2.below hb⟩

theorem into_bounds2 (T : List TK) (P : List TP) (V : List Int) (M : List TP) : (intoT T P V M).length ≤ 72 ∧ (intoP T P V M).length ≤ 72 ∧ (intoV T P V M).length ≤ 72 ∧ (intoD T P V M).length ≤ 72 := by
  by_cases h : intoE T P V M = 0
  · have h1 := into_small h
    have h2 := into_lens h
    have h3 := chkL_lens (into_chk h)
    exact ⟨by rw [(into_right h).2.2.2.2.1]; omega, by omega, by omega, by omega⟩
  · obtain ⟨e1, e2, e3, e4⟩ := into_err h
    rw [e1, e2, e3, e4]
    simp

set_option maxHeartbeats 12800000 in
set_option maxRecDepth 100000 in
theorem mergeTells_walk (o1 o2 o3 : Option Addr) (T : List TK) (P : List TP) (V : List Int) (c1 c2 c3 : Nat) (om : Option Addr) (M : List TP) (cm : Nat) (on : Option Addr) (N : List TP) (cn : Nat) (w : World) (hled : LedV w (lg o1 o2 o3 T.length c1 P.length c2 V.length c3) T P V) (hl : LensOk T P V)
    (hM : TapsV w (.slice om M.length cm) M) (hlM : M.length ≤ 9223372036854775807) (hN : TapsV w (.slice on N.length cn) N) (hlN : N.length ≤ 9223372036854775807) :
    Calls Try.prog 4 #[lg o1 o2 o3 T.length c1 P.length c2 V.length c3, .slice om M.length cm, .slice on N.length cn] w fun e w' => e = .returned (.bool true) ∧ Below w.heap.size w w' := by
  have HG := hide ((Blks.nil w).more (.cells #[.slice o1 T.length c1, .slice o2 P.length c2, .slice o3 V.length c3] 26) (by simp))
  have HI := hide (fun W (h : LedV W (lg o1 o2 o3 T.length c1 P.length c2 V.length c3) T P V) (h' : TapsV W (.slice om M.length cm) M) => into_any T P V M o1 o2 o3 om c1 c2 c3 cm W h hl h'.eqs.2.1 hlM h'.eqs.2.2.2)
  have HIo := hide (fun (h0 : chkL T P V = 0) W (h : LedV W (lg o1 o2 o3 T.length c1 P.length c2 V.length c3) T P V) (h' : TapsV W (.slice om M.length cm) M) => intoOf_any T P V M o1 o2 o3 om c1 c2 c3 cm W h h0 h')
  have HO := hide (fun W (h : TapsV W (.slice on N.length cn) N) => order_any on cn N W h.eqs.2.1 hlN h.eqs.2.2.2)
  have HOo := hide (fun W (h : TapsV W (.slice on N.length cn) N) => orderOf_any on cn N W h.eqs.2.1 hlN)
  have HCk := hide (fun W (h : LedV W (lg o1 o2 o3 T.length c1 P.length c2 V.length c3) T P V) => checkLedger_any o1 o2 o3 c1 c2 c3 T P V W h.parts3.1.eqs.2.1 h.parts3.2.1.eqs.2.1 h.parts3.2.2.eqs.2.1)
  have HLed := hide hled
  have HMt := hide hM
  have HNt := hide hN
  have HEz : Hid (ordE N ≠ 0 → ordR N = []) := hide (fun h => if_neg h)
  have hR72 : (ordR N).length ≤ 100 := by
    by_cases h : ordE N = 0
    · have := (ordE_right h).1
      rw [ordR_len h]
      omega
    · rw [HEz.out h]
      simp
  obtain ⟨hn1, hn2, hn3, hn4⟩ := into_bounds2 T P V M
  have HEr := hide (fun h => into_err (T := T) (P := P) (V := V) (M := M) h)
  have HEc : Hid (chkL T P V ≠ 0 → intoE T P V M = chkL T P V) := hide (fun h => if_neg h)
  clear hled hM hN
  generalize ordE N = E0 at *
  generalize ordR N = R0 at *
  generalize intoE T P V M = E at *
  generalize intoT T P V M = T2 at *
  generalize intoP T P V M = P2 at *
  generalize intoV T P V M = V2 at *
  generalize intoD T P V M = D at *
  go_enter Try.func4, Try.ntmps4
  go_wp2_with fail
  refine (HO.out _ (HNt.out.below HG.out.2.2)).mono ?_
  rintro e w1 ⟨⟨oo, no, co, rfl, hTo, -⟩, hb⟩
  obtain ⟨rfl, -⟩ := hTo.eqs
  have HR1 := hide hTo
  have HG1 := hide (HG.out.on hb)
  clear hb HG hTo HO
  have l0 := HG1.out.cell 0 0 w.heap.size _ _ _ rfl rfl rfl
  have l1 := HG1.out.cell 0 1 w.heap.size _ _ _ rfl rfl rfl
  have l2 := HG1.out.cell 0 2 w.heap.size _ _ _ rfl rfl rfl
  go_wp2_with fail
  refine (HI.out _ (HLed.out.below HG1.out.2.2) (HMt.out.below HG1.out.2.2)).mono ?_
  rintro e w2 ⟨⟨lv, od, nd, cd, rfl, ⟨v1, v2, v3, rfl, ⟨⟨a1, x1, rfl, ta⟩, -⟩, ⟨⟨a2, x2, rfl, tb⟩, -⟩, ⟨⟨a3, x3, rfl, tc⟩, -⟩⟩, hD, -⟩, hb⟩
  obtain ⟨rfl, -⟩ := hD.eqs
  have hLa : LedV w2 (lg a1 a2 a3 T2.length x1 P2.length x2 V2.length x3) T2 P2 V2 := ⟨_, _, _, rfl, ⟨a1, x1, rfl, ta⟩, ⟨a2, x2, rfl, tb⟩, ⟨a3, x3, rfl, tc⟩⟩
  have hbz := (Below.refl w2.heap.size w2).alloc (Nat.le_refl _) (cL a1 a2 a3 T2.length x1 P2.length x2 V2.length x3 26)
  have HX3 : Hid (MTa w (w2.alloc (cL a1 a2 a3 T2.length x1 P2.length x2 V2.length x3 26)) o1 o2 o3 T.length c1 P.length c2 V.length c3 w2.heap.size a1 a2 a3 T2.length x1 P2.length x2 V2.length x3 T2 P2 V2 od cd D oo co R0) := hide ⟨(HG1.out.on hb).on hbz, ⟨by simp [go_sem], by simp [go_sem], by simp [go_sem]⟩, hLa.below hbz, hD.below hbz, (HR1.out.below hb).below hbz⟩
  clear hb hbz HG1 HR1 ta tb tc hLa hD l0 l1 l2 HI
  go_wp2_with fail
  generalize w2.alloc (cL a1 a2 a3 T2.length x1 P2.length x2 V2.length x3 26) = w3 at *
  generalize w2.heap.size = ba at *
  refine (HOo.out _ (HNt.out.below HX3.out.1.2.2)).mono ?_
  rintro e w4 ⟨⟨op, np, cp, rfl, hTo, -⟩, hb⟩
  obtain ⟨rfl, -⟩ := hTo.eqs
  have HP4 := hide hTo
  have HX4 := hide (HX3.out.on hb)
  clear hb hTo HX3 HOo
  have l0 := HX4.out.1.cell 0 0 w.heap.size _ _ _ rfl rfl rfl
  have l1 := HX4.out.1.cell 0 1 w.heap.size _ _ _ rfl rfl rfl
  have l2 := HX4.out.1.cell 0 2 w.heap.size _ _ _ rfl rfl rfl
  go_wp2_with fail
  refine (HCk.out _ (HLed.out.below HX4.out.1.2.2)).mono ?_
  rintro e w5 ⟨rfl, hb⟩
  have HX5 := hide (HX4.out.on hb)
  have HP5 := hide (HP4.out.below hb)
  clear hb HX4 HP4 l0 l1 l2 HCk
  have hbz := (Below.refl w5.heap.size w5).alloc (Nat.le_refl _) (cL none none none 0 0 0 0 0 0 26)
  have HX6 := hide (HX5.out.on hbz)
  have HP6 := hide (HP5.out.below hbz)
  have HR6 : Hid ((w5.alloc (cL none none none 0 0 0 0 0 0 26)).heap[w5.heap.size]? = some (cL none none none 0 0 0 0 0 0 26)) := hide (heap_alloc_new' _ _ _ rfl)
  rcases hC : (chkL T P V == 0) with _ | _
  · have hC' : chkL T P V ≠ 0 := by simpa using hC
    have hEE := HEc.out hC'
    rw [← hEE] at hC ⊢
    have hEn : E ≠ 0 := by rw [hEE]; exact hC'
    clear hEE hC' HEc HIo
    obtain ⟨rfl, rfl, rfl, rfl⟩ := HEr.out hEn
    go_wp2_with fail
    generalize w5.alloc (cL none none none 0 0 0 0 0 0 26) = w6 at *
    generalize w5.heap.size = bb at *
    clear hbz HX5 HP5
    refine (mergeBegun_any _).mono ?_
    rintro e wA ⟨rfl, hb⟩
    have HXA := hide (HX6.out.on hb)
    have HPA := hide (HP6.out.below hb)
    have HRA := hide (row_onI HR6.out hb)
    clear hb HX6 HP6 HR6
    go_wp2_with fail
    refine (tapsAre_any HXA.out.2.2.2.2 HPA.out E0 hR72 hR72 (fun h => HEz.out h) (fun _ => rfl)).mono ?_
    rintro e wB ⟨rfl, hb⟩
    have HXB := hide (HXA.out.on hb)
    have HRB := hide (row_onI HRA.out hb)
    clear hb HXA HPA HRA
    have y0 := cell_of_row wB _ 0 _ _ _ HRB.out
    have y1 := cell_of_row wB _ 1 _ _ _ HRB.out
    have y2 := cell_of_row wB _ 2 _ _ _ HRB.out
    simp at y0 y1 y2
    have z0 := HXB.out.2.1.c0
    have z1 := HXB.out.2.1.c1
    have z2 := HXB.out.2.1.c2
    have hba := HXB.out.2.1.lt
    go_wp2_with fail
    refine (ledgerIs_err HXB.out.2.2.1 E hEn).mono ?_
    rintro e wC ⟨rfl, hb⟩
    have HXC := hide (HXB.out.on hb)
    clear hb HXB HRB y0 y1 y2 z0 z1 z2 hba
    go_wp2_with fail
    refine (tapsAre_any HXC.out.2.2.2.1 (tapsV_nilO wC) E (by simp) (by simp) (fun _ => rfl) (fun _ => rfl)).mono ?_
    rintro e wD ⟨rfl, hb⟩
    go_wp2_with fail
    go_ret
    exact ⟨rfl, HXC.out.1.2.2.trans (hb.mono HXC.out.1.2.2.size)⟩
  · have hC' : chkL T P V = 0 := by simpa using hC
    have HIp := hide (HIo.out hC')
    rw [hC']
    clear hC hC' HEc HIo
    have l0 := HX5.out.1.cell 0 0 w.heap.size _ _ _ rfl rfl rfl
    have l1 := HX5.out.1.cell 0 1 w.heap.size _ _ _ rfl rfl rfl
    have l2 := HX5.out.1.cell 0 2 w.heap.size _ _ _ rfl rfl rfl
    have hl0 := HX5.out.1.lt 0 w.heap.size (by simp) rfl
    have HBz := hide hbz
    clear hbz
    go_wp2_with fail
    refine (HIp.out _ (HLed.out.below HX6.out.1.2.2) (HMt.out.below HX6.out.1.2.2)).mono ?_
    rintro e w7 ⟨⟨lv, ov, rfl, hLv, hOv⟩, hb⟩
    obtain ⟨u1, u2, u3, rfl, ⟨b1, y1', rfl, ta⟩, ⟨b2, y2', rfl, tb⟩, ⟨b3, y3', rfl, tc⟩⟩ := hLv
    obtain ⟨oe, ce, rfl, te⟩ := hOv
    have HLv := hide (show LedV w7 (lg b1 b2 b3 T2.length y1' P2.length y2' V2.length y3') T2 P2 V2 from ⟨_, _, _, rfl, ⟨b1, y1', rfl, ta⟩, ⟨b2, y2', rfl, tb⟩, ⟨b3, y3', rfl, tc⟩⟩)
    have HOw := hide (show TapsV w7 (.slice oe D.length ce) D from ⟨oe, ce, rfl, te⟩)
    have hrow := row_onI HR6.out hb
    have HBw := hide (HBz.out.trans (hb.mono HBz.out.size))
    clear ta tb tc te hb HBz HX6 HP6 HR6 l0 l1 l2 hl0 HIp
    have hbb : w5.heap.size ≤ w5.heap.size := Nat.le_refl _
    have HBg := hide (((HBw.out.setCell (p := ⟨w5.heap.size, 0, none⟩) hbb (.slice b1 T2.length y1')).setCell (p := ⟨w5.heap.size, 1, none⟩) hbb (.slice b2 P2.length y2')).setCell (p := ⟨w5.heap.size, 2, none⟩) hbb (.slice b3 V2.length y3'))
    have r0 := cell_of_row w7 _ 0 _ _ _ hrow
    have r1 := cell_of_row w7 _ 1 _ _ _ hrow
    have r2 := cell_of_row w7 _ 2 _ _ _ hrow
    have s0 := frozen_of_row w7 _ 0 _ _ hrow
    have s1 := frozen_of_row w7 _ 1 _ _ hrow
    have s2 := frozen_of_row w7 _ 2 _ _ hrow
    simp at r0 r1 r2
    have HRg : Hid ((((w7.setCell ⟨w5.heap.size, 0, none⟩ (.slice b1 T2.length y1')).setCell ⟨w5.heap.size, 1, none⟩ (.slice b2 P2.length y2')).setCell ⟨w5.heap.size, 2, none⟩ (.slice b3 V2.length y3')).heap[w5.heap.size]? = some (.cells #[.slice b1 T2.length y1', .slice b2 P2.length y2', .slice b3 V2.length y3'] 26)) := hide (heap_setCell_same _ _ 2 _ _ _ (heap_setCell_same _ _ 1 _ _ _ (heap_setCell_same _ _ 0 _ _ _ hrow)))
    have HLb := hide (((HLv.out.setSl r0 (.slice b1 T2.length y1')).setSl (cell_other1I r1 (by simp)) (.slice b2 P2.length y2')).setSl (cell_other1I (cell_other1I r2 (by simp)) (by simp)) (.slice b3 V2.length y3'))
    have HOv := hide (((HOw.out.setSl r0 (.slice b1 T2.length y1')).setSl (cell_other1I r1 (by simp)) (.slice b2 P2.length y2')).setSl (cell_other1I (cell_other1I r2 (by simp)) (by simp)) (.slice b3 V2.length y3'))
    have HXg := hide (HX5.out.on HBg.out)
    have HPg := hide (HP5.out.below HBg.out)
    clear hrow HLv HOw HBw HX5 HP5 hbb
    rcases hE : (E == 0) with _ | _
    · have hEn : E ≠ 0 := by simpa using hE
      have HEq := hide (HEr.out hEn)
      clear HLb
      go_wp2_with fail
      generalize ((w7.setCell ⟨w5.heap.size, 0, none⟩ (.slice b1 T2.length y1')).setCell ⟨w5.heap.size, 1, none⟩ (.slice b2 P2.length y2')).setCell ⟨w5.heap.size, 2, none⟩ (.slice b3 V2.length y3') = wg at *
      generalize w5.heap.size = bb at *
      clear r0 r1 r2 s0 s1 s2 HBg
      refine (mergeBegun_any _).mono ?_
      rintro e wA ⟨rfl, hb⟩
      have HXA := hide (HXg.out.on hb)
      have HPA := hide (HPg.out.below hb)
      have HRA := hide (row_onI HRg.out hb)
      have HVA := hide (HOv.out.below hb)
      clear hb HXg HPg HRg
      go_wp2_with fail
      refine (tapsAre_any HXA.out.2.2.2.2 HPA.out E0 hR72 hR72 (fun h => HEz.out h) (fun _ => rfl)).mono ?_
      rintro e wB ⟨rfl, hb⟩
      have HXB := hide (HXA.out.on hb)
      have HRB := hide (row_onI HRA.out hb)
      have HVB := hide (HVA.out.below hb)
      clear hb HXA HPA HRA
      have y0 := cell_of_row wB _ 0 _ _ _ HRB.out
      have y1 := cell_of_row wB _ 1 _ _ _ HRB.out
      have y2 := cell_of_row wB _ 2 _ _ _ HRB.out
      simp at y0 y1 y2
      have z0 := HXB.out.2.1.c0
      have z1 := HXB.out.2.1.c1
      have z2 := HXB.out.2.1.c2
      have hba := HXB.out.2.1.lt
      go_wp2_with fail
      refine (ledgerIs_err (ledV_nils HXB.out.2.2.1 HEq.out.1 HEq.out.2.1 HEq.out.2.2.1) E hEn).mono ?_
      rintro e wC ⟨rfl, hb⟩
      have HXC := hide (HXB.out.on hb)
      have HVC := hide (HVB.out.below hb)
      clear hb HXB HRB y0 y1 y2 z0 z1 z2 hba
      go_wp2_with fail
      refine (tapsAre_any HXC.out.2.2.2.1 HVC.out E (by omega) (by omega) (fun _ => HEq.out.2.2.2) (fun _ => rfl)).mono ?_
      rintro e wD ⟨rfl, hb⟩
      go_wp2_with fail
      go_ret
      exact ⟨rfl, HXC.out.1.2.2.trans (hb.mono HXC.out.1.2.2.size)⟩
    · obtain rfl : E = 0 := by simpa using hE
      go_wp2_with fail
      generalize ((w7.setCell ⟨w5.heap.size, 0, none⟩ (.slice b1 T2.length y1')).setCell ⟨w5.heap.size, 1, none⟩ (.slice b2 P2.length y2')).setCell ⟨w5.heap.size, 2, none⟩ (.slice b3 V2.length y3') = wg at *
      generalize w5.heap.size = bb at *
      clear r0 r1 r2 s0 s1 s2 HBg
      refine (mergeBegun_any _).mono ?_
      rintro e wA ⟨rfl, hb⟩
      have HXA := hide (HXg.out.on hb)
      have HPA := hide (HPg.out.below hb)
      have HRA := hide (row_onI HRg.out hb)
      have HLA := hide (HLb.out.below hb)
      have HVA := hide (HOv.out.below hb)
      clear hb HXg HPg HRg
      go_wp2_with fail
      refine (tapsAre_any HXA.out.2.2.2.2 HPA.out E0 hR72 hR72 (fun h => HEz.out h) (fun _ => rfl)).mono ?_
      rintro e wB ⟨rfl, hb⟩
      have HXB := hide (HXA.out.on hb)
      have HRB := hide (row_onI HRA.out hb)
      have HLB := hide (HLA.out.below hb)
      have HVB := hide (HVA.out.below hb)
      clear hb HXA HPA HRA
      have y0 := cell_of_row wB _ 0 _ _ _ HRB.out
      have y1 := cell_of_row wB _ 1 _ _ _ HRB.out
      have y2 := cell_of_row wB _ 2 _ _ _ HRB.out
      simp at y0 y1 y2
      have z0 := HXB.out.2.1.c0
      have z1 := HXB.out.2.1.c1
      have z2 := HXB.out.2.1.c2
      have hba := HXB.out.2.1.lt
      go_wp2_with fail
      refine (ledgerIs_ok HXB.out.2.2.1 HLB.out (by omega) (by omega) (by omega)).mono ?_
      rintro e wC ⟨rfl, hb⟩
      have HXC := hide (HXB.out.on hb)
      have HVC := hide (HVB.out.below hb)
      clear hb HXB HRB y0 y1 y2 z0 z1 z2 hba
      go_wp2_with fail
      refine (tapsAre_any HXC.out.2.2.2.1 HVC.out 0 (by omega) (by omega) (fun h => absurd rfl h) (fun _ => rfl)).mono ?_
      rintro e wD ⟨rfl, hb⟩
      go_wp2_with fail
      go_ret
      exact ⟨rfl, HXC.out.1.2.2.trans (hb.mono HXC.out.1.2.2.size)⟩

end Go.Proofs.Ytefdnddaggpgkaa
