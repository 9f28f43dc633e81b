/-
  What follows of a tap behind a ride: within the time it is a change, and it costs nothing.
-/
import Derived.Test.YtcakfmpckbmdeacM2
namespace Go.Proofs.Ytcakfmpckbmdeac
open Go.RowKit

theorem chkT_later {p : TP} {l : Int} (h : chkT p = 0) (h0 : 0 ≤ l) (hs : p.s < 99) : (p.m + l ≤ 9999 ∧ chkT ⟨p.a, p.g, p.s + 1, p.m + l, p.z⟩ = 0) ∨ (9999 < p.m + l ∧ chkT ⟨p.a, p.g, p.s + 1, p.m + l, p.z⟩ = 3) := by
  obtain ⟨c1, c2, c3, c4, c5⟩ := chkP_right h
  by_cases hm : p.m + l ≤ 9999
  · left
    refine ⟨hm, ?_⟩
    unfold chkT chkP
    simp only []
    rw [if_neg, if_neg (by simp [c5])]
    rw [(wi_iff _ _ _).2 c1, (wi_iff _ _ _).2 c2, (wi_iff _ _ _).2 ⟨show 1 ≤ p.s + 1 by omega, by omega⟩, (wi_iff _ _ _).2 ⟨show 0 ≤ p.m + l by omega, hm⟩]
    simp
  · right
    refine ⟨by omega, ?_⟩
    unfold chkT chkP
    simp only []
    rw [if_pos]
    have : wi (p.m + l) 0 9999 = false := by
      cases hw : wi (p.m + l) 0 9999
      · rfl
      · rw [wi_iff] at hw; omega
    simp [this]

theorem place_zero {f t z m zone : Int} (h : place f t z m zone = 0) : f ≤ m ∧ m ≤ t ∧ ¬ z / zone % 2 = 0 := by
  unfold place at h
  cases hw : wi m f t
  · simp [hw] at h
  · rw [hw] at h
    simp at h
    rw [wi_iff] at hw
    exact ⟨hw.1, hw.2, h⟩

theorem judge_place {k f t z r last rides m zone : Int} (h : (judge k f t z r last rides m zone).2 = 0) : place f t z m zone = 0 := by
  unfold judge at h
  by_cases h1 : place f t z m zone = 0
  · exact h1
  · rw [if_pos h1] at h
    exact h

theorem goesOn_ways {T : List TK} {P : List TP} {V : List Int} {p : TP} {l : Int} (h : enterV T P V p = (1, 0)) (h0 : 0 ≤ l) (h60 : l < 60) (hs : p.s < 99) :
    ((enterV T (P ++ [p]) (V ++ [1]) ⟨p.a, p.g, p.s + 1, p.m + l, p.z⟩).2 = 6 ∨ (enterV T (P ++ [p]) (V ++ [1]) ⟨p.a, p.g, p.s + 1, p.m + l, p.z⟩).2 = 8 ∨ (enterV T (P ++ [p]) (V ++ [1]) ⟨p.a, p.g, p.s + 1, p.m + l, p.z⟩).2 = 2 ∨ (enterV T (P ++ [p]) (V ++ [1]) ⟨p.a, p.g, p.s + 1, p.m + l, p.z⟩).2 = 3) ∨
    (enterV T (P ++ [p]) (V ++ [1]) ⟨p.a, p.g, p.s + 1, p.m + l, p.z⟩ = (2, 0) ∧ ∃ c : Nat, ridesV T (P ++ [p]) (V ++ [1]) p.a = ((c : Int), 0) ∧ ridesV T (P ++ [p] ++ [⟨p.a, p.g, p.s + 1, p.m + l, p.z⟩]) (V ++ [1] ++ [2]) p.a = ((c : Int), 0)) := by
  have hE : (enterV T P V p).2 = 0 := by rw [h]
  have hv : (enterV T P V p).1 = 1 := by rw [h]
  obtain ⟨e1, e2, e3, e4, e5, e6⟩ := enter_right hE
  obtain ⟨q1, q2, q3, q4, q5⟩ := chkL_right e1
  have hu := unf_has e2
  have hck := enter_chk hE
  rw [hv] at hck
  obtain ⟨r1, r2, r3, r4, r5⟩ := chkL_right hck
  have hr := rising_of r4
  obtain ⟨x, hx, hxi, hidx⟩ := hasT_pos hr hu.2.1
  have hg : T.getD (idxT T p.a).toNat tk0 = x := by
    rw [hidx, show ((posT T p.a : Int)).toNat = posT T p.a from rfl]
    simp [List.getD, hx]
  -- the place of the first one
  have hpl : place x.f x.t x.z p.m p.z = 0 := by
    have e := judB_verd (V := V) (i := P.length) (rising_of q4) (checked_of q4) (fun y hy => errP_all_chk q5 y (List.mem_of_mem_take hy)) q2 hu.1 hu.2.1
    rw [List.take_of_length_le (by rw [List.length_zip]; omega)] at e
    rw [e] at e4
    unfold verd at e4
    rw [hg] at e4
    exact judge_place e4
  obtain ⟨p1, p2, p3⟩ := place_zero hpl
  have hm0 : 0 ≤ p.m := (chkP_right hu.1).2.2.2.1.1
  have hearly : earlyB (P ++ [p]) (p.m + l) = false := by
    simp [earlyB]
    omega
  rcases chkT_later hu.1 h0 hs with ⟨hm, hc⟩ | ⟨hm, hc⟩
  · by_cases htw : twiceT (P ++ [p]) ⟨p.a, p.g, p.s + 1, p.m + l, p.z⟩ = true
    · left; left
      have hun : unf T (P ++ [p]) ⟨p.a, p.g, p.s + 1, p.m + l, p.z⟩ = 6 := by simp [unf, firstE, hc, hu.2.1, htw]
      simp [enterV, hck, hun]
    · have hun : unf T (P ++ [p]) ⟨p.a, p.g, p.s + 1, p.m + l, p.z⟩ = 0 := by simp [unf, firstE, hc, hu.2.1, htw]
      have hjb : judB T ((P ++ [p]).zip (V ++ [1])) ⟨p.a, p.g, p.s + 1, p.m + l, p.z⟩ = if p.m + l ≤ x.t then (2, 0) else (3, 8) := by
        have e := judB_verd (V := V ++ [1]) (P := P ++ [p]) (i := (P ++ [p]).length) (p := ⟨p.a, p.g, p.s + 1, p.m + l, p.z⟩) hr (checked_of r4) (fun y hy => errP_all_chk r5 y (List.mem_of_mem_take hy)) r2 hc hu.2.1
        rw [List.take_of_length_le (by rw [List.length_zip]; omega)] at e
        rw [e]
        unfold verd
        simp only []
        rw [hg, List.take_of_length_le (by rw [List.length_zip]; omega), many_rides, zip_snoc q3, ridesL_snoc, if_pos (by simp)]
        have hl : lastT (ridesL (P.zip V) p.a ++ [p]) = p.m := by simp [lastT]
        rw [hl]
        unfold judge
        by_cases ht : p.m + l ≤ x.t
        · have hp2 : place x.f x.t x.z (p.m + l) p.z = 0 := by
            unfold place
            rw [(wi_iff _ _ _).2 ⟨show x.f ≤ p.m + l by omega, ht⟩]
            simp [p3]
          rw [if_pos ht, if_neg (by simpa using hp2), if_pos (by omega)]
        · have hp2 : place x.f x.t x.z (p.m + l) p.z = 8 := by
            unfold place
            have : wi (p.m + l) x.f x.t = false := by
              cases hw : wi (p.m + l) x.f x.t
              · rfl
              · rw [wi_iff] at hw; omega
            simp [this]
          rw [if_neg ht, hp2, if_pos (by decide)]
      by_cases ht : p.m + l ≤ x.t
      · rw [if_pos ht] at hjb
        by_cases hl60 : (P ++ [p]).length = 60
        · left; right; right; left
          simp only [enterV, hck, hun, hearly, hjb, hl60]
          simp
        · right
          have hE2 : enterV T (P ++ [p]) (V ++ [1]) ⟨p.a, p.g, p.s + 1, p.m + l, p.z⟩ = (2, 0) := by
            simp only [enterV, hck, hun, hearly, hjb, hl60]
            simp
          refine ⟨hE2, ?_⟩
          obtain ⟨c, c', a1, a2, -, a4, -⟩ := enter_rides (p := ⟨p.a, p.g, p.s + 1, p.m + l, p.z⟩) (T := T) (P := P ++ [p]) (V := V ++ [1]) (by rw [hE2]) (List.mem_of_getElem? hx)
          rw [hE2] at a2 a4
          rw [hxi] at a1 a2
          simp at a4
          exact ⟨c, a1, by rw [a2, a4]⟩
      · rw [if_neg ht] at hjb
        left; right; left
        simp only [enterV, hck, hun, hearly, hjb]
        simp
  · left; right; right; right
    have hun : unf T (P ++ [p]) ⟨p.a, p.g, p.s + 1, p.m + l, p.z⟩ = 3 := by simp [unf, firstE, hc]
    simp [enterV, hck, hun]
end Go.Proofs.Ytcakfmpckbmdeac
