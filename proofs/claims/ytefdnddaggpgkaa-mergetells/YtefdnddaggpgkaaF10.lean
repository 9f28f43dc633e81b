/-
  'each' with a builder's 'enter' (package merge).
-/
import Derived.Test.YtefdnddaggpgkaaF9
import Derived.Test.YtefdnddaggpgkaaF3
namespace Go.Proofs.Ytefdnddaggpgkaa
open Go.RowKit

/-- what a builder makes of taps: an error, taps, verdicts, and what it tells -/
def bldA (T : List TK) : List TP → List TP → List Int → List TP → Int × List TP × List Int × List TP
  | [], P, V, D => (0, P, V, D)
  | p :: L, P, V, D => if bldE T P V p = 0 then bldA T L (bldP T P V p) (bldV T P V p) (bldD T P V D p) else (bldE T P V p, P, V, D)

theorem Bld.below {w w' : World} {B base F : Nat} {T : List TK} {P : List TP} {V : List Int} {D : List TP} (h : Bld w B base F T P V D) (hb : Below w.heap.size w w') : Bld w' B base F T P V D := by
  obtain ⟨o1, c1, o2, c2, o3, c3, o4, c4, h1, h2, h3, h4, h5, h6⟩ := h
  exact ⟨o1, c1, o2, c2, o3, c3, o4, c4, at_below h1 hb, h2.below hb, ownsRow_below h3 hb, h4, Nat.le_trans h5 hb.size, h6⟩

theorem Bld.lt {w : World} {B base F : Nat} {T : List TK} {P : List TP} {V : List Int} {D : List TP} (h : Bld w B base F T P V D) : B < w.heap.size := by
  obtain ⟨o1, c1, o2, c2, o3, c3, o4, c4, h1, h2, h3, h4, h5, h6⟩ := h
  omega

theorem TapsAt.keepB {w w' : World} {o : Option Addr} {L : List TP} {B : Nat} (h : TapsAt w o L) (hb : Below B w w') (hlt : ∀ A, o = some A → L ≠ [] → A.block < B) : TapsAt w' o L := fun i p hi => by
  obtain ⟨b, e, h5⟩ := h i p hi
  exact ⟨b, e, h5.below hb (by rw [addr_blk]; exact hlt b e (fun h => by simp [h] at hi))⟩

theorem bld_keeps {T : List TK} {P : List TP} {V : List Int} {D : List TP} {p : TP} (h : bldE T P V p ≠ 0) : bldP T P V p = P ∧ bldV T P V p = V ∧ bldD T P V D p = D := by
  unfold bldE at h
  unfold bldP bldV bldD
  by_cases h1 : (enterV T P V p).2 = 0
  · rw [if_pos h1] at h; exact absurd rfl h
  · rw [if_neg h1] at h
    by_cases h2 : (enterV T P V p).1 = 3 ∨ (enterV T P V p).2 = 5
    · rw [if_pos h2] at h; exact absurd rfl h
    · simp [h1, h2]

theorem bld_lens (T : List TK) (P : List TP) (V : List Int) (D : List TP) (p : TP) (n : Nat) (h1 : P.length ≤ n) (h2 : V.length ≤ n) (h3 : D.length ≤ n) : (bldP T P V p).length ≤ n + 1 ∧ (bldV T P V p).length ≤ n + 1 ∧ (bldD T P V D p).length ≤ n + 1 := by
  unfold bldP bldV bldD
  refine ⟨?_, ?_, ?_⟩
  · split
    · simp; omega
    · omega
  · split
    · simp; omega
    · omega
  · split
    · omega
    · split
      · simp; omega
      · omega

set_option maxHeartbeats 3200000 in
theorem eachB_any (B base F : Nat) (T : List TK) (o : Option Addr) (cap : Nat) (L : List TP) (w : World) (hB : Bld w B base F T [] [] []) (hT : T.length ≤ 9223372036854775807) (hL : TapsAt w o L) (hlt : ∀ A, o = some A → L ≠ [] → A.block < B) (hlen : L.length ≤ 72) :
    Calls Try.prog 34 #[.slice o L.length cap, .func (.func 35) #[.pointer (some ⟨B, 0, none⟩)] #[]] w fun x w' => (x = .returned (.int .i64 (bldA T L [] [] []).1) ∧ Bld w' B base F T (bldA T L [] [] []).2.1 (bldA T L [] [] []).2.2.1 (bldA T L [] [] []).2.2.2) ∧ Below B w w' := by
  have HL := hide hL
  have HLt := hide hlt
  have HB := hide hB
  have HT := hide hT
  obtain ⟨R, hR⟩ : ∃ R, R = bldA T L [] [] [] := ⟨_, rfl⟩
  rw [← hR]
  have HR := hide hR
  have hBw := hB.lt
  clear hL hlt hB hT hR
  go_enter Try.func34, Try.ntmps34
  go_wp2_with fail
  go_loopw [10] (fun j wr => ∃ (q : Nat) (P : List TP) (V : List Int) (D : List TP), q ≤ L.length ∧ j = .int .i64 q ∧ Hid (bldA T L [] [] [] = bldA T (L.drop q) P V D) ∧ Hid (P.length ≤ q ∧ V.length ≤ q ∧ D.length ≤ q) ∧ Hid (Bld wr B base F T P V D) ∧ Hid (Below B w wr)) (fun j _ => L.length - (intOf j).toNat)
  case atStart => exact ⟨0, [], [], [], Nat.zero_le _, rfl, by show _ = _; simp, ⟨by simp, by simp, by simp⟩, HB, Below.refl _ _⟩
  case round =>
    obtain ⟨q, P, V, D, hq, rfl, hE, hN, hBr, hW⟩ := hrel
    by_cases hgo : q < L.length
    · obtain ⟨p, hp⟩ : ∃ p, L[q]? = some p := ⟨L[q], by simp [hgo]⟩
      obtain ⟨A, rfl, c0, c1, c2, c3, c4⟩ := (HL.out.keepB hW.out HLt.out) q p hp
      have hE' := hE.out
      rw [dropP hp, bldA] at hE'
      have HE := hide hE'
      have hal := (Below.refl wr.heap.size wr).alloc (Nat.le_refl _) (.cells #[.int .i64 p.a, .int .i64 p.g, .int .i64 p.s, .int .i64 p.m, .int .i64 p.z] 28)
      have HV := hide (bEnter_any B base F T P V D p.a p.g p.s p.m p.z _ (hBr.out.below hal) ⟨HT.out, by have := hN.out; omega, by have := hN.out; omega⟩ (by have := hN.out; omega))
      have HWa := hide (hW.out.trans (hal.mono (Nat.le_of_lt hBr.out.lt)))
      have HN' := hide (bld_lens T P V D p q hN.out.1 hN.out.2.1 hN.out.2.2)
      have HK := hide (fun h => bld_keeps (T := T) (P := P) (V := V) (D := D) (p := p) h)
      clear hE hE' hp hal hN hW hBr
      go_wp2_with fail
      refine HV.out.mono ?_
      rintro e w3 ⟨⟨rfl, hb2⟩, hb3⟩
      have HB3 := hide (HWa.out.trans hb3)
      have HBld := hide hb2
      clear hb2 hb3 HV HWa
      have hp' : (⟨p.a, p.g, p.s, p.m, p.z⟩ : TP) = p := rfl
      rw [hp'] at HBld
      rw [hp']
      clear hp'
      by_cases h0 : bldE T P V p = 0
      · have HE' := hide (show bldA T L [] [] [] = bldA T (L.drop (q + 1)) (bldP T P V p) (bldV T P V p) (bldD T P V D p) by rw [HE.out, if_pos h0])
        rw [h0]
        clear h0 HE HK
        generalize bldP T P V p = P' at *
        generalize bldV T P V p = V' at *
        generalize bldD T P V D p = D' at *
        go_wp2_with fail
        exact ⟨⟨q + 1, P', V', D', by omega, by simp, HE', HN', HBld, HB3⟩, by simp [intOf]; omega⟩
      · have h0' : (bldE T P V p != 0) = true := by simpa using h0
        have HE' := hide (show R = (bldE T P V p, P, V, D) by rw [HR.out, HE.out, if_neg h0])
        obtain ⟨k1, k2, k3⟩ := HK.out h0
        rw [k1, k2, k3] at HBld
        clear h0 HE HK k1 k2 k3 HN'
        generalize bldE T P V p = E at *
        go_wp2_with fail
        go_ret
        exact ⟨⟨by rw [HE'.out]; rfl, by rw [HE'.out]; exact HBld.out⟩, HB3.out⟩
    · have hE' := hE.out
      rw [List.drop_of_length_le (by omega), bldA] at hE'
      have HE' := hide (show R = (0, P, V, D) by rw [HR.out, hE'])
      clear hE'
      go_wp2_with fail
      go_ret
      exact ⟨⟨by rw [HE'.out]; rfl, by rw [HE'.out]; exact hBr.out⟩, hW.out⟩
end Go.Proofs.Ytefdnddaggpgkaa
