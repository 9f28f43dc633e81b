/-
  'SameTickets', 'SameInts', 'SameLedger' (package leeboardref), of the same ones.
-/
import Derived.Test.YtcakfmpckbmdeabW3
import Derived.Test.YtcakfmpckbmdeabQ1
import Derived.Test.YtcakfmpckbmdeabW1
namespace Go.Proofs.Ytcakfmpckbmdeab
open Go.RowKit

set_option maxHeartbeats 3200000 in
set_option maxRecDepth 100000 in
theorem sameTickets_same (L : List TK) (o o' : Option Addr) (c c' : Nat) (w : World) (hL : TiksAt w o L) (hM : TiksAt w o' L) (hlen : L.length ≤ 100) :
    Calls Try.prog 86 #[.slice o L.length c, .slice o' L.length c'] w fun e w' => e = .returned (.bool true) ∧ Below w.heap.size w w' := by
  have HL := hide hL
  have HM := hide hM
  clear hL hM
  go_enter Try.func86, Try.ntmps86
  go_wp2_with fail
  go_loopw [5] (fun j wr => ∃ (q : Nat), q ≤ L.length ∧ j = .int .i64 q ∧ Below w.heap.size w wr) (fun j _ => L.length - (intOf j).toNat)
  case atStart => exact ⟨0, Nat.zero_le _, rfl, Below.refl _ _⟩
  case round =>
    obtain ⟨q, hq, rfl, hbr⟩ := hrel
    by_cases hgo : q < L.length
    · obtain ⟨p, hp⟩ : ∃ p, L[q]? = some p := ⟨L[q], by simp [hgo]⟩
      obtain ⟨A, rfl, c0, c1, c2, c3, c4, c5⟩ := (HL.out.below hbr) q p hp
      obtain ⟨A', rfl, d0, d1, d2, d3, d4, d5⟩ := (HM.out.below hbr) q p hp
      clear hp
      go_wp2_with fail
      go_region
      go_wp2_with fail
      exact ⟨⟨q + 1, by omega, by simp, hbr.drew⟩, by simp [intOf]; omega⟩
    · go_wp2_with fail
      go_ret
      exact ⟨rfl, hbr⟩

set_option maxHeartbeats 3200000 in
set_option maxRecDepth 100000 in
theorem sameLedger_same (T : List TK) (P : List TP) (V : List Int) (o1 o2 o3 q1 q2 q3 : Option Addr) (c1 c2 c3 d1 d2 d3 : Nat) (w : World) (h1 : TiksAt w o1 T) (h2 : TapsAt w o2 P) (h3 : IntsAt w o3 V) (g1 : TiksAt w q1 T) (g2 : TapsAt w q2 P) (g3 : IntsAt w q3 V)
    (l1 : T.length ≤ 100) (l2 : P.length ≤ 100) (l3 : V.length ≤ 100) :
    Calls Try.prog 66 #[lg o1 o2 o3 T.length c1 P.length c2 V.length c3, lg q1 q2 q3 T.length d1 P.length d2 V.length d3] w fun e w' => e = .returned (.bool true) ∧ Below w.heap.size w w' := by
  have HA := hide (fun W (h : TiksAt W o1 T) (g : TiksAt W q1 T) => sameTickets_same T o1 q1 c1 d1 W h g l1)
  have HB := hide (fun W (h : TapsAt W o2 P) (g : TapsAt W q2 P) => sameTaps_same P o2 q2 c2 d2 W h g l2)
  have HC := hide (fun W (h : IntsAt W o3 V) (g : IntsAt W q3 V) => sameInts_same V o3 q3 c3 d3 W h g l3)
  have H1 := hide (And.intro h1 g1)
  have H2 := hide (And.intro h2 g2)
  have H3 := hide (And.intro h3 g3)
  clear h1 h2 h3 g1 g2 g3
  go_enter Try.func66, Try.ntmps66
  go_wp2_with fail
  have hb0 : Below w.heap.size w ((w.alloc (cL o1 o2 o3 T.length c1 P.length c2 V.length c3 43)).alloc (cL q1 q2 q3 T.length d1 P.length d2 V.length d3 43)) := ((Below.refl _ _).alloc (Nat.le_refl _) _).alloc (by simp) _
  have HL1 : Hid (Led3 ((w.alloc (cL o1 o2 o3 T.length c1 P.length c2 V.length c3 43)).alloc (cL q1 q2 q3 T.length d1 P.length d2 V.length d3 43)) w.heap.size o1 o2 o3 T.length c1 P.length c2 V.length c3) := hide ⟨by simp [go_sem], by simp [go_sem], by simp [go_sem]⟩
  have HL2 : Hid (Led3 ((w.alloc (cL o1 o2 o3 T.length c1 P.length c2 V.length c3 43)).alloc (cL q1 q2 q3 T.length d1 P.length d2 V.length d3 43)) (w.heap.size + 1) q1 q2 q3 T.length d1 P.length d2 V.length d3) := hide ⟨by simp [go_sem], by simp [go_sem], by simp [go_sem]⟩
  have HB0 := hide hb0
  clear hb0
  generalize (w.alloc (cL o1 o2 o3 T.length c1 P.length c2 V.length c3 43)).alloc (cL q1 q2 q3 T.length d1 P.length d2 V.length d3 43) = w1 at *
  refine (HA.out _ (H1.out.1.below HB0.out) (H1.out.2.below HB0.out)).mono ?_
  rintro e w2 ⟨rfl, hb2⟩
  have HB2 := hide (HB0.out.trans (hb2.mono HB0.out.size))
  have HL3 := hide (HL1.out.below hb2 HL1.out.lt)
  have HL4 := hide (HL2.out.below hb2 HL2.out.lt)
  clear hb2 HL1 HL2 HB0
  obtain ⟨x0, x1, x2⟩ := HL3.out
  obtain ⟨y0, y1, y2⟩ := HL4.out
  go_wp2_with fail
  refine (HB.out _ (H2.out.1.below HB2.out) (H2.out.2.below HB2.out)).mono ?_
  rintro e w3 ⟨rfl, hb3⟩
  have HB3 := hide (HB2.out.trans (hb3.mono HB2.out.size))
  have HL5 := hide (HL3.out.below hb3 HL3.out.lt)
  have HL6 := hide (HL4.out.below hb3 HL4.out.lt)
  clear hb3 HL3 HL4 HB2 x0 x1 x2 y0 y1 y2
  obtain ⟨x0, x1, x2⟩ := HL5.out
  obtain ⟨y0, y1, y2⟩ := HL6.out
  go_wp2_with fail
  refine (HC.out _ (H3.out.1.below HB3.out) (H3.out.2.below HB3.out)).mono ?_
  rintro e w4 ⟨rfl, hb4⟩
  have HB4 := hide (HB3.out.trans (hb4.mono HB3.out.size))
  clear hb4 HL5 HL6 HB3 x0 x1 x2 y0 y1 y2
  go_wp2_with fail
  go_ret
  exact ⟨rfl, HB4.out⟩
end Go.Proofs.Ytcakfmpckbmdeab
