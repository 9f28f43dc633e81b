/-
  'Rides' (package ledger); what follows where Check says OK.
-/
import Derived.Test.YtcakfmpckbmdeabL7
namespace Go.Proofs.Ytcakfmpckbmdeab
open Go.RowKit

theorem chkL_right {T : List TK} {P : List TP} {V : List Int} (h : chkL T P V = 0) : T.length ≤ 12 ∧ P.length ≤ 60 ∧ V.length = P.length ∧ ticksE T = 0 ∧ tapsE T P V = 0 := by
  by_cases hm : 12 < T.length ∨ 60 < P.length ∨ P.length ≠ V.length
  · rw [chkL_many hm] at h; cases h
  · rcases chkL_split hm with ⟨h1, h2⟩ | ⟨h1, h2⟩
    · exact absurd (h2.symm.trans h) h1
    · exact ⟨by omega, by omega, by omega, h1, h2.symm.trans h⟩

/-- what Rides says -/
def ridesV (T : List TK) (P : List TP) (V : List Int) (id : Int) : Int × Int :=
  if chkL T P V ≠ 0 then (0, chkL T P V) else if hasT T id = true then (((ridesL (P.zip V) id).length : Int), 0) else (0, 5)

set_option maxHeartbeats 3200000 in
theorem ridesLed_any (T : List TK) (P : List TP) (V : List Int) (id : Int) (o1 o2 o3 : Option Addr) (c1 c2 c3 : Nat) (w : World) (hT : TiksAt w o1 T) (hP : TapsAt w o2 P) (hV : IntsAt w o3 V) (hlT : T.length ≤ 9223372036854775807) (hlP : P.length ≤ 9223372036854775807) (hlV : V.length ≤ 9223372036854775807)
    (hc2 : P.length ≤ c2) (hc3 : V.length ≤ c3) :
    Calls Try.prog 20 #[lg o1 o2 o3 T.length c1 P.length c2 V.length c3, .int .i64 id] w fun e w' => e = .returned (.tuple #[.int .i64 (ridesV T P V id).1, .int .i64 (ridesV T P V id).2]) ∧ Below w.heap.size w w' := by
  have HC := hide (fun W (h : TiksAt W o1 T) (h' : TapsAt W o2 P) (h'' : IntsAt W o3 V) => checkLed_any T P V o1 o2 o3 c1 c2 c3 W h h' h'' hlT hlP hlV hc2 hc3)
  have HPl := hide (fun (h0 : chkL T P V = 0) W (h : TiksAt W o1 T) => place_any T id o1 o2 o3 c1 P.length c2 V.length c3 W h (chkL_right h0).1 (rising_of (chkL_right h0).2.2.2.1))
  have HRi := hide (fun (h0 : chkL T P V = 0) W (h : TapsAt W o2 P) (h' : IntsAt W o3 V) => rides_any P V id o1 o2 o3 T.length c1 c2 c3 W h h' (chkL_right h0).2.1 (chkL_right h0).2.2.1)
  have HLr := hide (fun (h0 : chkL T P V = 0) => (by have := ridesL_len (P.zip V) id; rw [List.length_zip] at this; have := (chkL_right h0).2.1; omega : (ridesL (P.zip V) id).length ≤ 60))
  have HT := hide hT
  have HP := hide hP
  have HV := hide hV
  clear hT hP hV hlT hlP hlV hc2 hc3
  generalize hR : ridesV T P V id = R
  unfold ridesV at hR
  generalize chkL T P V = X at *
  generalize ridesL (P.zip V) id = rl at *
  generalize hasT T id = hs at *
  generalize posT T id = pos at *
  by_cases hX : X = 0
  · subst hX
    have HPl' := hide (HPl.out rfl)
    have HRi' := hide (HRi.out rfl)
    have hlr := HLr.out rfl
    clear HPl HRi HLr
    rw [if_neg (by simp)] at hR
    cases hs
    · rw [if_neg (by simp)] at hR
      subst hR
      go_enter Try.func20, Try.ntmps20
      go_wp2_with fail
      refine (HC.out _ (HT.out.below ?_) (HP.out.below ?_) (HV.out.below ?_)).mono ?_
      · exact (Below.refl _ _).alloc (Nat.le_refl _) _
      · exact (Below.refl _ _).alloc (Nat.le_refl _) _
      · exact (Below.refl _ _).alloc (Nat.le_refl _) _
      rintro e w1 ⟨rfl, hb1⟩
      have HB1 := hide (((Below.refl w.heap.size w).alloc (Nat.le_refl _) (cL o1 o2 o3 T.length c1 P.length c2 V.length c3 43)).trans (hb1.mono (by simp)))
      obtain ⟨hc, hf⟩ := bcell hb1
      have hs1 := hb1.size
      simp at hs1
      clear hb1
      go_wp2_with fail
      refine (HPl'.out _ (HT.out.below ?_)).mono ?_
      · exact HB1.out.alloc HB1.out.size _
      rintro e w2 ⟨rfl, hb2⟩
      have HB2 := hide ((HB1.out.alloc HB1.out.size (cL o1 o2 o3 T.length c1 P.length c2 V.length c3 79)).trans (hb2.mono (by simp; omega)))
      clear hb2 hc hf
      go_wp2_with fail
      go_ret2
      exact ⟨rfl, HB2.out⟩
    · rw [if_pos rfl] at hR
      subst hR
      go_enter Try.func20, Try.ntmps20
      go_wp2_with fail
      refine (HC.out _ (HT.out.below ?_) (HP.out.below ?_) (HV.out.below ?_)).mono ?_
      · exact (Below.refl _ _).alloc (Nat.le_refl _) _
      · exact (Below.refl _ _).alloc (Nat.le_refl _) _
      · exact (Below.refl _ _).alloc (Nat.le_refl _) _
      rintro e w1 ⟨rfl, hb1⟩
      have HB1 := hide (((Below.refl w.heap.size w).alloc (Nat.le_refl _) (cL o1 o2 o3 T.length c1 P.length c2 V.length c3 43)).trans (hb1.mono (by simp)))
      obtain ⟨hc, hf⟩ := bcell hb1
      have hs1 := hb1.size
      simp at hs1
      clear hb1
      go_wp2_with fail
      refine (HPl'.out _ (HT.out.below ?_)).mono ?_
      · exact HB1.out.alloc HB1.out.size _
      rintro e w2 ⟨rfl, hb2⟩
      have HB2 := hide ((HB1.out.alloc HB1.out.size (cL o1 o2 o3 T.length c1 P.length c2 V.length c3 79)).trans (hb2.mono (by simp; omega)))
      clear hc hf
      obtain ⟨hc, hf⟩ := bcell hb2
      clear hb2
      go_wp2_with fail
      refine (HRi'.out _ (HP.out.below HB2.out) (HV.out.below HB2.out)).mono ?_
      rintro e w3 ⟨⟨o, cap, rfl, hRt⟩, hb3⟩
      have HB3 := hide (HB2.out.trans (hb3.mono HB2.out.size))
      clear hb3 hc hf hRt
      go_wp2_with fail
      go_ret2
      exact ⟨rfl, HB3.out⟩
  · have hX' : (X != 0) = true := by simpa using hX
    rw [if_pos hX] at hR
    subst hR
    clear hX HPl HRi HLr
    go_enter Try.func20, Try.ntmps20
    go_wp2_with fail
    refine (HC.out _ (HT.out.below ?_) (HP.out.below ?_) (HV.out.below ?_)).mono ?_
    · exact (Below.refl _ _).alloc (Nat.le_refl _) _
    · exact (Below.refl _ _).alloc (Nat.le_refl _) _
    · exact (Below.refl _ _).alloc (Nat.le_refl _) _
    rintro e w1 ⟨rfl, hb1⟩
    have HB1 := hide (((Below.refl w.heap.size w).alloc (Nat.le_refl _) (cL o1 o2 o3 T.length c1 P.length c2 V.length c3 43)).trans (hb1.mono (by simp)))
    clear hb1
    go_wp2_with fail
    go_ret2
    exact ⟨rfl, HB1.out⟩

end Go.Proofs.Ytcakfmpckbmdeab
