/-
  Views: 'Set' (package lead), 'SetOf', 'SameViews' (package leeboardref), 'viewsAre' (package leeboardlaw).
-/
import Derived.Test.YtcakfmpckbmdeafV6
namespace Go.Proofs.Ytcakfmpckbmdeaf
open Go.RowKit

theorem setR_ways (L : List VW) (who : Int) (up : Bool) : (unfW L who 2 ≠ 0 ∧ setR L who up = []) ∨ (unfW L who 2 = 0 ∧ setR L who up = setL L who up) := by
  rw [setR]
  by_cases h : unfW L who 2 = 0 <;> simp [h]

theorem setL_len (L : List VW) (who : Int) (up : Bool) : (setL L who up).length = L.length := by simp [setL]

set_option maxHeartbeats 1600000 in
theorem set_any (o : Option Addr) (cap : Nat) (L : List VW) (who : Int) (up : Bool) (w : World) (hL : VwsAt w o L) (hlen : L.length ≤ 9223372036854775807) :
    Calls Try.prog 7 #[.slice o L.length cap, .int .i64 who, .bool up] w fun e w' => (∃ o' n c', e = .returned (.tuple #[.slice o' n c', .int .i64 (unfW L who 2)]) ∧ VwsV w' (.slice o' n c') (setR L who up) ∧ Fresh w.heap.size (.slice o' n c')) ∧ Below w.heap.size w w' := by
  have HL := hide hL
  have HU := hide (fun W (h : VwsAt W o L) => unfW_any who 3 o cap L W h hlen (by omega))
  simp only [show (3 : Int) - 1 = 2 from rfl] at HU
  clear hL
  rcases setR_ways L who up with ⟨h0, hr⟩ | ⟨h0, hr⟩
  · have h0' : (unfW L who 2 != 0) = true := by simpa using h0
    rw [hr]
    clear hr h0
    generalize unfW L who 2 = E at *
    go_enter Try.func7, Try.ntmps7
    go_wp2_with fail
    refine (HU.out _ HL.out).mono ?_
    rintro e w1 ⟨rfl, hb⟩
    have HB := hide hb
    clear hb
    go_wp2_with fail
    go_ret2
    exact ⟨⟨_, _, _, rfl, vwsV_nil _, fresh_nil _⟩, HB.out⟩
  · obtain ⟨hc, hw0, hw1⟩ := unfW_right h0
    have hl3 := right_len hc
    obtain ⟨k, rfl⟩ : ∃ k : Nat, who = (k : Int) := ⟨who.toNat, by omega⟩
    obtain ⟨p, hp⟩ : ∃ p, L[k]? = some p := ⟨L[k]'(by omega), by simp⟩
    obtain ⟨A, rfl, -⟩ := HL.out k p hp
    have HK := hide (fun W (h : VwsAt W (some A) L) => cloneO_any L A cap W h (by omega) (by omega))
    have hkI : (k : Int) < (L.length : Int) := by omega
    have hkN : k < L.length := by omega
    have HP := hide hp
    rw [h0] at HU ⊢
    have hR : setR L k up = L.modify k fun v => ⟨v.e, v.l, up⟩ := hr
    generalize setR L k up = R at *
    have HR := hide hR
    clear hc hl3 hp hr hR h0 hw0 hw1
    go_enter Try.func7, Try.ntmps7
    go_wp2_with fail
    refine (HU.out _ HL.out).mono ?_
    rintro e w1 ⟨rfl, hb⟩
    have HL1 := hide (HL.out.below hb)
    have HB1 := hide hb
    clear hb
    go_wp2_with fail
    refine (HK.out _ HL1.out).mono ?_
    rintro e w2 ⟨⟨g, c, rfl, hg, hown⟩, hb2⟩
    have HO := hide hown
    have HB2 := hide (HB1.out.trans (hb2.mono HB1.out.size))
    have hg' : w.heap.size ≤ g := Nat.le_trans HB1.out.size hg
    clear hown hb2 hg
    obtain ⟨pe, pl, pu⟩ := p
    have c2 : w2.cell? ⟨g, k * 3 + 2, none⟩ = some (.bool pu) := by rw [HO.out.cellAt _ (by omega)]; exact cellsW_get L k _ HP.out 2 (by decide)
    have z2 := HO.out.frozenAt (k * 3 + 2)
    have HS := hide (HO.out.stored (k * 3 + 2) (.bool up)).1
    rw [cellsW_up L k up (by omega)] at HS
    have HBs := hide (HB2.out.setCell (p := ⟨g, k * 3 + 2, none⟩) hg' (.bool up))
    have HR' := hide (show L.length = R.length by rw [HR.out]; exact (setL_len L k up).symm)
    have HS' := hide (show VwsV _ _ R from HR.out ▸ vwsV_own HS.out)
    go_wp2_with fail
    go_ret2
    exact ⟨⟨_, _, _, rfl, HS'.out, fun k hk => by cases hk; exact hg'⟩, HBs.out⟩

set_option maxHeartbeats 1600000 in
theorem setOf_any (o : Option Addr) (cap : Nat) (L : List VW) (who : Int) (up : Bool) (w : World) (hL : VwsAt w o L) (h0 : chkVs L = 0) :
    Calls Try.prog 11 #[.slice o L.length cap, .int .i64 who, .bool up] w fun e w' => (∃ o' n c', e = .returned (.tuple #[.slice o' n c', .int .i64 (unfW L who 2)]) ∧ VwsV w' (.slice o' n c') (setR L who up) ∧ Fresh w.heap.size (.slice o' n c')) ∧ Below w.heap.size w w' := by
  have hu : unfW L who 2 = if wi who 0 2 = true then 0 else 3 := by rw [unfW, if_pos h0]
  rcases setR_ways L who up with ⟨h1, hr⟩ | ⟨h1, hr⟩
  · have hw : wi who 0 2 = false := by
      cases hw : wi who 0 2
      · rfl
      · rw [hu, hw] at h1; exact absurd rfl h1
    rw [hr, hu, hw]
    simp only [Bool.false_eq_true, if_false]
    clear hr hu h1
    go_enter Try.func11, Try.ntmps11
    go_wp2_with (go_at_call 23; refine (between_any _ _ _ _).mono ?_; rintro e w' ⟨rfl, rfl⟩; rw [hw])
    go_ret2
    exact ⟨⟨_, _, _, rfl, vwsV_nil _, fresh_nil _⟩, Below.refl _ _⟩
  · obtain ⟨hc, hw0, hw1⟩ := unfW_right h1
    have hl3 := right_len hc
    obtain ⟨k, rfl⟩ : ∃ k : Nat, who = (k : Int) := ⟨who.toNat, by omega⟩
    obtain ⟨p, hp⟩ : ∃ p, L[k]? = some p := ⟨L[k]'(by omega), by simp⟩
    obtain ⟨A, rfl, -⟩ := hL k p hp
    have hkI : (k : Int) < (L.length : Int) := by omega
    have hkN : k < L.length := by omega
    have hlen : L.length ≤ 60 := by omega
    have HP := hide hp
    have hwi : wi (k : Int) 0 2 = true := by rw [wi_iff]; omega
    rw [h1]
    have hR : setR L k up = L.modify k fun v => ⟨v.e, v.l, up⟩ := hr
    generalize setR L k up = R at *
    have HR := hide hR
    obtain ⟨i0, hi, hz0, hz1, hz2⟩ := info_parts infoVw
    have HN := hide (vws_cells (hL.below ((Below.refl w.heap.size w).alloc (Nat.le_refl _) (.cells #[] 38))))
    have HO0 := hide (World.ownsRow_made (base := w.heap.size) (e := 38) (size := 3) w #[] 0 (Nat.le_refl _) (by decide) rfl)
    have HB1 := hide (Below.refl w.heap.size w)
    clear hL hc hl3 hp hr hR h0 hu h1 hw0 hw1
    go_enter Try.func11, Try.ntmps11
    go_wp2_with fail
    refine (between_any _ _ _ _).mono ?_
    rintro e w' ⟨rfl, hw'⟩
    obtain rfl := hw'.symm
    rw [hwi]
    go_wp2_with (at_builtin; refine wpList_append_own _ rfl _ _ 22 rfl w.heap.size 38 i0 _ 3 24 Try.underlying22 hi hz0 hz1 hz2 rfl (by decide) _ 0 _ rfl HO0.out A L.length cap (cellsW L) rfl (cellsW_len L) HN.out (oneW L) (by unfold maxLen; omega) (by omega) (by simp) ?_; intro v1 w1 hown1 hgrow1 _)
    have hb2 := ((Below.refl w.heap.size w).alloc (Nat.le_refl _) (.cells #[] 38)).grown hgrow1 (by simp) (fun k hk => (HO0.out.lt k hk).1)
    obtain ⟨g, c, rfl, hg, hown⟩ : ∃ g c, v1 = .slice (some ⟨g, 0, none⟩) L.length c ∧ w.heap.size ≤ g ∧ w1.ownsRow w.heap.size 38 3 (.slice (some ⟨g, 0, none⟩) L.length c) L.length (cellsW L) := by
      have hn : 0 + L.length = L.length := by omega
      rw [hn] at hown1
      rcases hown1.2 with ⟨-, h⟩ | ⟨g, c, cur, rfl, hg, -⟩
      · omega
      · exact ⟨g, c, rfl, hg, hown1⟩
    clear hown1 hgrow1
    obtain ⟨w2, hw2⟩ : ∃ w2, w2 = w1 := ⟨_, rfl⟩
    subst hw2
    have HO := hide hown
    have HB2 := hide (HB1.out.trans (hb2.mono HB1.out.size))
    have hg' : w.heap.size ≤ g := Nat.le_trans HB1.out.size hg
    clear hown hb2 hg
    obtain ⟨pe, pl, pu⟩ := p
    have c2 : w2.cell? ⟨g, k * 3 + 2, none⟩ = some (.bool pu) := by rw [HO.out.cellAt _ (by omega)]; exact cellsW_get L k _ HP.out 2 (by decide)
    have z2 := HO.out.frozenAt (k * 3 + 2)
    have HS := hide (HO.out.stored (k * 3 + 2) (.bool up)).1
    rw [cellsW_up L k up (by omega)] at HS
    have HBs := hide (HB2.out.setCell (p := ⟨g, k * 3 + 2, none⟩) hg' (.bool up))
    have HR' := hide (show L.length = R.length by rw [HR.out]; exact (setL_len L k up).symm)
    have HS' := hide (show VwsV _ _ R from HR.out ▸ vwsV_own HS.out)
    go_simp
    go_wp2_with fail
    go_ret2
    exact ⟨⟨_, _, _, rfl, HS'.out, fun k hk => by cases hk; exact hg'⟩, HBs.out⟩

set_option maxHeartbeats 1600000 in
theorem sameViews_same (L : List VW) (o o' : Option Addr) (c c' : Nat) (w : World) (hL : VwsAt w o L) (hM : VwsAt w o' L) (hlen : L.length ≤ 100) :
    Calls Try.prog 15 #[.slice o L.length c, .slice o' L.length c'] w fun e w' => e = .returned (.bool true) ∧ Below w.heap.size w w' := by
  have HL := hide hL
  have HM := hide hM
  clear hL hM
  go_enter Try.func15, Try.ntmps15
  go_wp2_with fail
  go_loopw [5] (fun j wr => ∃ (q : Nat), q ≤ L.length ∧ j = .int .i64 q ∧ Below w.heap.size w wr) (fun j _ => L.length - (intOf j).toNat)
  case atStart => exact ⟨0, Nat.zero_le _, rfl, Below.refl _ _⟩
  case round =>
    obtain ⟨q, hq, rfl, hbr⟩ := hrel
    by_cases hgo : q < L.length
    · obtain ⟨p, hp⟩ : ∃ p, L[q]? = some p := ⟨L[q], by simp [hgo]⟩
      obtain ⟨A, rfl, c0, c1, c2⟩ := (HL.out.below hbr) q p hp
      obtain ⟨A', rfl, d0, d1, d2⟩ := (HM.out.below hbr) q p hp
      clear hp
      go_wp2_with fail
      go_region
      go_wp2_with fail
      exact ⟨⟨q + 1, by omega, by simp, hbr.drew⟩, by simp [intOf]; omega⟩
    · go_wp2_with fail
      go_ret
      exact ⟨rfl, hbr⟩

theorem viewsAre_ok (L : List VW) (o o' : Option Addr) (c c' : Nat) (w : World) (hL : VwsAt w o L) (hM : VwsAt w o' L) (hlen : L.length ≤ 100) :
    Calls Try.prog 14 #[.slice o L.length c, .int .i64 0, .int .i64 0, .slice o' L.length c'] w fun e w' => e = .returned (.bool true) ∧ Below w.heap.size w w' := by
  have HC := hide (fun W (h1 : VwsAt W o L) (h2 : VwsAt W o' L) => sameViews_same L o o' c c' W h1 h2 hlen)
  have HL := hide hL
  have HM := hide hM
  clear hL hM
  go_enter Try.func14, Try.ntmps14
  go_wp2_with fail
  refine (HC.out _ HL.out HM.out).mono ?_
  rintro e w1 ⟨rfl, hb⟩
  have HB := hide hb
  clear hb
  go_wp2_with fail
  go_ret
  exact ⟨rfl, HB.out⟩

theorem viewsAre_err (x : Int) (hx : x ≠ 0) (o' : Option Addr) (n' c' : Nat) (w : World) :
    Calls Try.prog 14 #[.slice none 0 0, .int .i64 x, .int .i64 x, .slice o' n' c'] w fun e w' => e = .returned (.bool true) ∧ Below w.heap.size w w' := by
  have h1 : (x != 0) = true := by simpa using hx
  have HC := hide (fun W => sameViews_same [] none none 0 0 W (fun i p h => by simp at h) (fun i p h => by simp at h) (by simp))
  clear hx
  go_enter Try.func14, Try.ntmps14
  go_wp2_with fail
  refine (HC.out _).mono ?_
  rintro e w1 ⟨rfl, hb⟩
  have HB := hide hb
  clear hb
  go_wp2_with fail
  go_ret
  exact ⟨rfl, HB.out⟩
end Go.Proofs.Ytcakfmpckbmdeaf
