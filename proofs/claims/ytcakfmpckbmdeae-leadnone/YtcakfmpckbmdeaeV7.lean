/-
  Views: 'Set' (package lead), 'SetOf', 'SameViews' (package leeboardref), 'viewsAre' (package leeboardlaw).
-/
import Derived.Test.YtcakfmpckbmdeaeV6
namespace Go.Proofs.Ytcakfmpckbmdeae
open Go.RowKit

theorem setR_ways (L : List VW) (who : Int) (up : Bool) : (unfW L who 2 ≠ 0 ∧ setR L who up = []) ∨ (unfW L who 2 = 0 ∧ setR L who up = setL L who up) := by
  rw [setR]
  by_cases h : unfW L who 2 = 0 <;> simp [h]

theorem setL_len (L : List VW) (who : Int) (up : Bool) : (setL L who up).length = L.length := by simp [setL]

set_option maxHeartbeats 1600000 in
set_option maxRecDepth 100000 in
theorem set_any (o : Option Addr) (cap : Nat) (L : List VW) (who : Int) (up : Bool) (w : World) (hL : VwsAt w o L) (hlen : L.length ≤ 9223372036854775807) :
    Calls Try.prog 26 #[.slice o L.length cap, .int .i64 who, .bool up] w fun e w' => (∃ o' n c', e = .returned (.tuple #[.slice o' n c', .int .i64 (unfW L who 2)]) ∧ VwsV w' (.slice o' n c') (setR L who up) ∧ Fresh w.heap.size (.slice o' n c')) ∧ Below w.heap.size w w' := by
  have HL := hide hL
  have HU := hide (fun W (h : VwsAt W o L) => unfW_any who 3 o cap L W h hlen (by omega))
  simp only [show (3 : Int) - 1 = 2 from rfl] at HU
  clear hL
  rcases setR_ways L who up with ⟨h0, hr⟩ | ⟨h0, hr⟩
  · have h0' : (unfW L who 2 != 0) = true := by simpa using h0
    rw [hr]
    clear hr h0
    generalize unfW L who 2 = E at *
    go_enter Try.func26, Try.ntmps26
    go_wp2_with fail
    refine (HU.out _ HL.out).mono ?_
    rintro e w1 ⟨rfl, hb⟩
    have HB := hide hb
    clear hb
    go_wp2_with fail
    go_ret2
    exact ⟨⟨_, _, _, rfl, vwsV_nil _, fresh_nil _⟩, HB.out⟩
  · obtain ⟨hc, hw0, hw1⟩ := unfW_right h0
    have hl3 := right_len hc
    obtain ⟨k, rfl⟩ : ∃ k : Nat, who = (k : Int) := ⟨who.toNat, by omega⟩
    obtain ⟨p, hp⟩ : ∃ p, L[k]? = some p := ⟨L[k]'(by omega), by simp⟩
    obtain ⟨A, rfl, -⟩ := HL.out k p hp
    have HK := hide (fun W (h : VwsAt W (some A) L) => cloneO_any L A cap W h (by omega) (by omega))
    have hkI : (k : Int) < (L.length : Int) := by omega
    have hkN : k < L.length := by omega
    have HP := hide hp
    rw [h0] at HU ⊢
    have hR : setR L k up = L.modify k fun v => ⟨v.e, v.l, up⟩ := hr
    generalize setR L k up = R at *
    have HR := hide hR
    clear hc hl3 hp hr hR h0 hw0 hw1
    go_enter Try.func26, Try.ntmps26
    go_wp2_with fail
    refine (HU.out _ HL.out).mono ?_
    rintro e w1 ⟨rfl, hb⟩
    have HL1 := hide (HL.out.below hb)
    have HB1 := hide hb
    clear hb
    go_wp2_with fail
    refine (HK.out _ HL1.out).mono ?_
    rintro e w2 ⟨⟨g, c, rfl, hg, hown⟩, hb2⟩
    have HO := hide hown
    have HB2 := hide (HB1.out.trans (hb2.mono HB1.out.size))
    have hg' : w.heap.size ≤ g := Nat.le_trans HB1.out.size hg
    clear hown hb2 hg
    obtain ⟨pe, pl, pu⟩ := p
    have c2 : w2.cell? ⟨g, k * 3 + 2, none⟩ = some (.bool pu) := by rw [HO.out.cellAt _ (by omega)]; exact cellsW_get L k _ HP.out 2 (by decide)
    have z2 := HO.out.frozenAt (k * 3 + 2)
    have HS := hide (HO.out.stored (k * 3 + 2) (.bool up)).1
    rw [cellsW_up L k up (by omega)] at HS
    have HBs := hide (HB2.out.setCell (p := ⟨g, k * 3 + 2, none⟩) hg' (.bool up))
    have HR' := hide (show L.length = R.length by rw [HR.out]; exact (setL_len L k up).symm)
    have HS' := hide (show VwsV _ _ R from HR.out ▸ vwsV_own HS.out)
    go_wp2_with fail
    go_ret2
    exact ⟨⟨_, _, _, rfl, HS'.out, fun k hk => by cases hk; exact hg'⟩, HBs.out⟩

set_option maxHeartbeats 1600000 in
set_option maxRecDepth 100000 in
theorem sameViews_same (L : List VW) (o o' : Option Addr) (c c' : Nat) (w : World) (hL : VwsAt w o L) (hM : VwsAt w o' L) (hlen : L.length ≤ 100) :
    Calls Try.prog 30 #[.slice o L.length c, .slice o' L.length c'] w fun e w' => e = .returned (.bool true) ∧ Below w.heap.size w w' := by
  have HL := hide hL
  have HM := hide hM
  clear hL hM
  go_enter Try.func30, Try.ntmps30
  go_wp2_with fail
  go_loopw [5] (fun j wr => ∃ (q : Nat), q ≤ L.length ∧ j = .int .i64 q ∧ Below w.heap.size w wr) (fun j _ => L.length - (intOf j).toNat)
  case atStart => exact ⟨0, Nat.zero_le _, rfl, Below.refl _ _⟩
  case round =>
    obtain ⟨q, hq, rfl, hbr⟩ := hrel
    by_cases hgo : q < L.length
    · obtain ⟨p, hp⟩ : ∃ p, L[q]? = some p := ⟨L[q], by simp [hgo]⟩
      obtain ⟨A, rfl, c0, c1, c2⟩ := (HL.out.below hbr) q p hp
      obtain ⟨A', rfl, d0, d1, d2⟩ := (HM.out.below hbr) q p hp
      clear hp
      go_wp2_with fail
      go_region
      go_wp2_with fail
      exact ⟨⟨q + 1, by omega, by simp, hbr.drew⟩, by simp [intOf]; omega⟩
    · go_wp2_with fail
      go_ret
      exact ⟨rfl, hbr⟩

end Go.Proofs.Ytcakfmpckbmdeae
