/-
  'ledgerBegun' (package leeboardlaw).
-/
import Derived.Test.YtcakfmpckbmdeabW1
namespace Go.Proofs.Ytcakfmpckbmdeab
open Go.RowKit

def aP : List TP := [⟨1, 0, 1, 20, 1⟩, ⟨1, 1, 1, 60, 1⟩, ⟨4, 0, 2, 60, 1⟩]
def aV : List Int := [1, 2, 1]
def bT : List TK := [⟨1, 1, 10, 500, 15, 0⟩, ⟨2, 1, 10, 500, 15, 0⟩, ⟨4, 3, 0, 900, 3, 2⟩]

theorem a_lens : LensOk bookT aP aV := by simp [LensOk, bookT, aP, aV]

theorem begun_e1 : enterV bookT bookP bookV ⟨4, 0, 2, 60, 1⟩ = (1, 0) := by decide +kernel
theorem begun_e2 : enterV bookT bookP bookV ⟨1, 0, 2, 90, 1⟩ = (3, 10) := by decide +kernel
theorem begun_e3 : enterV bookT bookP bookV ⟨4, 1, 1, 70, 1⟩ = (0, 6) := by decide +kernel
theorem begun_s : sellE bookT bookP bookV ⟨2, 1, 10, 500, 15, 0⟩ = 0 := by decide +kernel
theorem begun_sT : soldT bookT ⟨2, 1, 10, 500, 15, 0⟩ = bT := rfl
theorem begun_r : ridesV bookT aP aV 4 = (1, 0) := by decide +kernel
theorem begun_c : chkL bookT aP aV = 0 := by decide +kernel

/-- a ledger's value in its three slices, and the ledger behind it -/
theorem LedV.parts {w : World} {v : Value} {T : List TK} {P : List TP} {V : List Int} (h : LedV w v T P V) : ∃ o1 c1 o2 c2 o3 c3, v = lg o1 o2 o3 T.length c1 P.length c2 V.length c3 ∧ LedV w (lg o1 o2 o3 T.length c1 P.length c2 V.length c3) T P V := by
  obtain ⟨o1, c1, o2, c2, o3, c3, e, -⟩ := h.opened
  exact ⟨o1, c1, o2, c2, o3, c3, e, e ▸ h⟩

set_option maxHeartbeats 6400000 in
set_option maxRecDepth 100000 in
theorem ledgerBegun_any (w : World) : Calls Try.prog 26 #[] w fun e w' => e = .returned (.bool true) ∧ Below w.heap.size w w' := by
  go_enter Try.func26, Try.ntmps26
  go_wp2_with fail
  refine (book_any _).mono ?_
  rintro e w1 ⟨⟨vb, rfl, hvb⟩, hb⟩
  have HB := hide hb
  clear hb
  obtain ⟨ob1, cb1, ob2, cb2, ob3, cb3, rfl, hvb'⟩ := hvb.parts
  have HAb := hide hvb'
  clear hvb hvb'
  go_wp2_with fail
  refine (at_any _ _ _ _ _).mono ?_
  rintro e w2 ⟨rfl, hb⟩
  have HAb' := hide (HAb.out.below hb)
  clear HAb
  have HAb := HAb'
  clear HAb'
  have HB' := hide (HB.out.trans (hb.mono HB.out.size))
  clear HB
  have HB := HB'
  clear HB'
  clear hb
  go_wp2_with fail
  refine (enterVv HAb.out book_lens _ _ _ _ _).mono ?_
  rintro e w3 ⟨⟨va, rfl, hva⟩, hb⟩
  have HAb' := hide (HAb.out.below hb)
  clear HAb
  have HAb := HAb'
  clear HAb'
  have HB' := hide (HB.out.trans (hb.mono HB.out.size))
  clear HB
  have HB := HB'
  clear HB'
  clear hb
  rw [begun_e1] at hva ⊢
  simp only [if_true] at hva
  replace hva : LedV _ va bookT aP aV := hva
  obtain ⟨oa1, ca1, oa2, ca2, oa3, ca3, rfl, hva'⟩ := hva.parts
  have HA1 := hide hva'
  clear hva hva' HAb
  go_wp2_with fail
  have hb := (Below.refl w3.heap.size w3).alloc (Nat.le_refl _) (cL oa1 oa2 oa3 bookT.length ca1 aP.length ca2 aV.length ca3 43)
  have HL1 : Hid (Led3 (w3.alloc (cL oa1 oa2 oa3 bookT.length ca1 aP.length ca2 aV.length ca3 43)) w3.heap.size oa1 oa2 oa3 bookT.length ca1 aP.length ca2 aV.length ca3) := hide ⟨by simp [go_sem], by simp [go_sem], by simp [go_sem]⟩
  have HA1' := hide (HA1.out.below hb)
  clear HA1
  have HA1 := HA1'
  clear HA1'
  have HB' := hide (HB.out.trans (hb.mono HB.out.size))
  clear HB
  have HB := HB'
  clear HB'
  generalize w3.alloc (cL oa1 oa2 oa3 bookT.length ca1 aP.length ca2 aV.length ca3 43) = w4 at *
  clear hb
  refine (book_any _).mono ?_
  rintro e w5 ⟨⟨vb, rfl, hvb⟩, hb⟩
  have HA1' := hide (HA1.out.below hb)
  clear HA1
  have HA1 := HA1'
  clear HA1'
  have HL1' := hide (HL1.out.below hb HL1.out.lt)
  clear HL1
  have HL1 := HL1'
  clear HL1'
  have HB' := hide (HB.out.trans (hb.mono HB.out.size))
  clear HB
  have HB := HB'
  clear HB'
  clear hb
  obtain ⟨ob1, cb1, ob2, cb2, ob3, cb3, rfl, hvb'⟩ := hvb.parts
  have HAb := hide hvb'
  clear hvb hvb'
  go_wp2_with fail
  refine (at_any _ _ _ _ _).mono ?_
  rintro e w6 ⟨rfl, hb⟩
  have HA1' := hide (HA1.out.below hb)
  clear HA1
  have HA1 := HA1'
  clear HA1'
  have HL1' := hide (HL1.out.below hb HL1.out.lt)
  clear HL1
  have HL1 := HL1'
  clear HL1'
  have HAb' := hide (HAb.out.below hb)
  clear HAb
  have HAb := HAb'
  clear HAb'
  have HB' := hide (HB.out.trans (hb.mono HB.out.size))
  clear HB
  have HB := HB'
  clear HB'
  clear hb
  go_wp2_with fail
  refine (enterVv HAb.out book_lens _ _ _ _ _).mono ?_
  rintro e w7 ⟨⟨ve, rfl, hve⟩, hb⟩
  have HA1' := hide (HA1.out.below hb)
  clear HA1
  have HA1 := HA1'
  clear HA1'
  have HL1' := hide (HL1.out.below hb HL1.out.lt)
  clear HL1
  have HL1 := HL1'
  clear HL1'
  have HAb' := hide (HAb.out.below hb)
  clear HAb
  have HAb := HAb'
  clear HAb'
  have HB' := hide (HB.out.trans (hb.mono HB.out.size))
  clear HB
  have HB := HB'
  clear HB'
  clear hb
  rw [begun_e2] at hve ⊢
  simp only [show ¬ (10 : Int) = 0 by decide, if_false] at hve
  obtain ⟨oe1, ce1, oe2, ce2, oe3, ce3, rfl, -⟩ := hve.parts
  simp only [List.length_nil]
  clear hve HAb
  go_wp2_with fail
  have hb := (Below.refl w7.heap.size w7).alloc (Nat.le_refl _) (cL oe1 oe2 oe3 0 ce1 0 ce2 0 ce3 43)
  have HA1' := hide (HA1.out.below hb)
  clear HA1
  have HA1 := HA1'
  clear HA1'
  have HL1' := hide (HL1.out.below hb HL1.out.lt)
  clear HL1
  have HL1 := HL1'
  clear HL1'
  have HB' := hide (HB.out.trans (hb.mono HB.out.size))
  clear HB
  have HB := HB'
  clear HB'
  generalize w7.alloc (cL oe1 oe2 oe3 0 ce1 0 ce2 0 ce3 43) = w8 at *
  clear hb
  refine (book_any _).mono ?_
  rintro e w9 ⟨⟨vb, rfl, hvb⟩, hb⟩
  have HA1' := hide (HA1.out.below hb)
  clear HA1
  have HA1 := HA1'
  clear HA1'
  have HL1' := hide (HL1.out.below hb HL1.out.lt)
  clear HL1
  have HL1 := HL1'
  clear HL1'
  have HB' := hide (HB.out.trans (hb.mono HB.out.size))
  clear HB
  have HB := HB'
  clear HB'
  clear hb
  obtain ⟨ob1, cb1, ob2, cb2, ob3, cb3, rfl, hvb'⟩ := hvb.parts
  have HAb := hide hvb'
  clear hvb hvb'
  go_wp2_with fail
  refine (single_any _ _).mono ?_
  rintro e w10 ⟨rfl, hb⟩
  have HA1' := hide (HA1.out.below hb)
  clear HA1
  have HA1 := HA1'
  clear HA1'
  have HL1' := hide (HL1.out.below hb HL1.out.lt)
  clear HL1
  have HL1 := HL1'
  clear HL1'
  have HAb' := hide (HAb.out.below hb)
  clear HAb
  have HAb := HAb'
  clear HAb'
  have HB' := hide (HB.out.trans (hb.mono HB.out.size))
  clear HB
  have HB := HB'
  clear HB'
  clear hb
  go_wp2_with fail
  refine (sellV HAb.out book_lens _ _ _ _ _ _).mono ?_
  rintro e w11 ⟨⟨vs, rfl, hvs⟩, hb⟩
  have HA1' := hide (HA1.out.below hb)
  clear HA1
  have HA1 := HA1'
  clear HA1'
  have HL1' := hide (HL1.out.below hb HL1.out.lt)
  clear HL1
  have HL1 := HL1'
  clear HL1'
  have HAb' := hide (HAb.out.below hb)
  clear HAb
  have HAb := HAb'
  clear HAb'
  have HB' := hide (HB.out.trans (hb.mono HB.out.size))
  clear HB
  have HB := HB'
  clear HB'
  clear hb
  rw [begun_s] at hvs ⊢
  simp only [if_true, begun_sT] at hvs
  obtain ⟨os1, cs1, os2, cs2, os3, cs3, rfl, hvs'⟩ := hvs.parts
  have HA7 := hide hvs'
  clear hvs hvs' HAb
  obtain ⟨x0, x1, x2⟩ := HL1.out
  have hlt1 := HL1.out.lt
  go_wp2_with fail
  clear x0 x1 x2 hlt1
  have hb := (Below.refl w11.heap.size w11).alloc (Nat.le_refl _) (cL os1 os2 os3 bT.length cs1 bookP.length cs2 bookV.length cs3 43)
  have HL7 : Hid (Led3 (w11.alloc (cL os1 os2 os3 bT.length cs1 bookP.length cs2 bookV.length cs3 43)) w11.heap.size os1 os2 os3 bT.length cs1 bookP.length cs2 bookV.length cs3) := hide ⟨by simp [go_sem], by simp [go_sem], by simp [go_sem]⟩
  have HA1' := hide (HA1.out.below hb)
  clear HA1
  have HA1 := HA1'
  clear HA1'
  have HL1' := hide (HL1.out.below hb HL1.out.lt)
  clear HL1
  have HL1 := HL1'
  clear HL1'
  have HA7' := hide (HA7.out.below hb)
  clear HA7
  have HA7 := HA7'
  clear HA7'
  have HB' := hide (HB.out.trans (hb.mono HB.out.size))
  clear HB
  have HB := HB'
  clear HB'
  generalize w11.alloc (cL os1 os2 os3 bT.length cs1 bookP.length cs2 bookV.length cs3 43) = w12 at *
  clear hb
  refine (ridesVv HA1.out a_lens _).mono ?_
  rintro e w13 ⟨rfl, hb⟩
  have HA1' := hide (HA1.out.below hb)
  clear HA1
  have HA1 := HA1'
  clear HA1'
  have HL1' := hide (HL1.out.below hb HL1.out.lt)
  clear HL1
  have HL1 := HL1'
  clear HL1'
  have HA7' := hide (HA7.out.below hb)
  clear HA7
  have HA7 := HA7'
  clear HA7'
  have HL7' := hide (HL7.out.below hb HL7.out.lt)
  clear HL7
  have HL7 := HL7'
  clear HL7'
  have HB' := hide (HB.out.trans (hb.mono HB.out.size))
  clear HB
  have HB := HB'
  clear HB'
  clear hb
  rw [begun_r]
  go_wp2_with fail
  refine (book_any _).mono ?_
  rintro e w14 ⟨⟨vb, rfl, hvb⟩, hb⟩
  have HA1' := hide (HA1.out.below hb)
  clear HA1
  have HA1 := HA1'
  clear HA1'
  have HL1' := hide (HL1.out.below hb HL1.out.lt)
  clear HL1
  have HL1 := HL1'
  clear HL1'
  have HA7' := hide (HA7.out.below hb)
  clear HA7
  have HA7 := HA7'
  clear HA7'
  have HL7' := hide (HL7.out.below hb HL7.out.lt)
  clear HL7
  have HL7 := HL7'
  clear HL7'
  have HB' := hide (HB.out.trans (hb.mono HB.out.size))
  clear HB
  have HB := HB'
  clear HB'
  clear hb
  obtain ⟨ob1, cb1, ob2, cb2, ob3, cb3, rfl, hvb'⟩ := hvb.parts
  have HAb := hide hvb'
  clear hvb hvb'
  go_wp2_with fail
  refine (at_any _ _ _ _ _).mono ?_
  rintro e w15 ⟨rfl, hb⟩
  have HA1' := hide (HA1.out.below hb)
  clear HA1
  have HA1 := HA1'
  clear HA1'
  have HL1' := hide (HL1.out.below hb HL1.out.lt)
  clear HL1
  have HL1 := HL1'
  clear HL1'
  have HA7' := hide (HA7.out.below hb)
  clear HA7
  have HA7 := HA7'
  clear HA7'
  have HL7' := hide (HL7.out.below hb HL7.out.lt)
  clear HL7
  have HL7 := HL7'
  clear HL7'
  have HAb' := hide (HAb.out.below hb)
  clear HAb
  have HAb := HAb'
  clear HAb'
  have HB' := hide (HB.out.trans (hb.mono HB.out.size))
  clear HB
  have HB := HB'
  clear HB'
  clear hb
  go_wp2_with fail
  refine (enterVv HAb.out book_lens _ _ _ _ _).mono ?_
  rintro e w16 ⟨⟨ve, rfl, hve⟩, hb⟩
  have HA1' := hide (HA1.out.below hb)
  clear HA1
  have HA1 := HA1'
  clear HA1'
  have HL1' := hide (HL1.out.below hb HL1.out.lt)
  clear HL1
  have HL1 := HL1'
  clear HL1'
  have HA7' := hide (HA7.out.below hb)
  clear HA7
  have HA7 := HA7'
  clear HA7'
  have HL7' := hide (HL7.out.below hb HL7.out.lt)
  clear HL7
  have HL7 := HL7'
  clear HL7'
  have HAb' := hide (HAb.out.below hb)
  clear HAb
  have HAb := HAb'
  clear HAb'
  have HB' := hide (HB.out.trans (hb.mono HB.out.size))
  clear HB
  have HB := HB'
  clear HB'
  clear hb
  rw [begun_e3] at hve ⊢
  simp only [show ¬ (6 : Int) = 0 by decide, if_false] at hve
  obtain ⟨of1, cf1, of2, cf2, of3, cf3, rfl, -⟩ := hve.parts
  simp only [List.length_nil]
  clear hve HAb
  obtain ⟨x0, x1, x2⟩ := HL1.out
  have hlt1 := HL1.out.lt
  go_wp2_with fail
  clear x0 x1 x2 hlt1
  have hb := (Below.refl w16.heap.size w16).alloc (Nat.le_refl _) (cL of1 of2 of3 0 cf1 0 cf2 0 cf3 43)
  have HA1' := hide (HA1.out.below hb)
  clear HA1
  have HA1 := HA1'
  clear HA1'
  have HL1' := hide (HL1.out.below hb HL1.out.lt)
  clear HL1
  have HL1 := HL1'
  clear HL1'
  have HA7' := hide (HA7.out.below hb)
  clear HA7
  have HA7 := HA7'
  clear HA7'
  have HL7' := hide (HL7.out.below hb HL7.out.lt)
  clear HL7
  have HL7 := HL7'
  clear HL7'
  have HB' := hide (HB.out.trans (hb.mono HB.out.size))
  clear HB
  have HB := HB'
  clear HB'
  generalize w16.alloc (cL of1 of2 of3 0 cf1 0 cf2 0 cf3 43) = w17 at *
  clear hb
  refine (checkV HA1.out a_lens).mono ?_
  rintro e w18 ⟨rfl, hb⟩
  have HA1' := hide (HA1.out.below hb)
  clear HA1
  have HA1 := HA1'
  clear HA1'
  have HL1' := hide (HL1.out.below hb HL1.out.lt)
  clear HL1
  have HL1 := HL1'
  clear HL1'
  have HA7' := hide (HA7.out.below hb)
  clear HA7
  have HA7 := HA7'
  clear HA7'
  have HL7' := hide (HL7.out.below hb HL7.out.lt)
  clear HL7
  have HL7 := HL7'
  clear HL7'
  have HB' := hide (HB.out.trans (hb.mono HB.out.size))
  clear HB
  have HB := HB'
  clear HB'
  clear hb
  rw [begun_c]
  obtain ⟨q1, p1, q2, p2, q3, p3, e7, hT7, -⟩ := HA7.out.opened
  simp only [Value.agg.injEq, Array.mk.injEq, List.cons.injEq, Value.slice.injEq] at e7
  obtain ⟨⟨rfl, -, rfl⟩, -⟩ := e7
  obtain ⟨A, rfl, z0, -⟩ := hT7 1 ⟨2, 1, 10, 500, 15, 0⟩ rfl
  obtain ⟨x0, x1, x2⟩ := HL7.out
  have hlen : bT.length = 3 := rfl
  simp only [hlen] at x0 x1 x2
  simp [Addr.add] at z0
  go_wp2_with fail
  go_ret
  exact ⟨rfl, HB.out⟩
end Go.Proofs.Ytcakfmpckbmdeab
