/-
  The walk of RuleGoesOn.
-/
import Derived.Test.YtcakfmpckbmdeabP7
namespace Go.Proofs.Ytcakfmpckbmdeab
open Go.RowKit

/-- a first tap: refused, or a ride -/
theorem judgeV_first (i k f t z r a g s m zone : Int) :
    ((judgeV i k f t z r 0 ⟨a, g, s, m, zone⟩ []).2 ≠ 0 ∧ ((judgeV i k f t z r 0 ⟨a, g, s, m, zone⟩ []).1 = 0 ∨ (judgeV i k f t z r 0 ⟨a, g, s, m, zone⟩ []).1 = 3)) ∨
    ((judgeV i k f t z r 0 ⟨a, g, s, m, zone⟩ []) = (1, 0) ∧ 0 ≤ m ∧ m ≤ 9999 ∧ errJ i k f t z r 0 ⟨a, g, s, m, zone⟩ [] = 0 ∧ place f t z m zone = 0) := by
  by_cases hE : errJ i k f t z r 0 ⟨a, g, s, m, zone⟩ [] = 0
  · obtain ⟨h1, h2, h3, h4, h5, h6⟩ := errJ_right hE
    have hV : judgeV i k f t z r 0 ⟨a, g, s, m, zone⟩ [] = judge k f t z r (-1) 0 m zone := by rw [judgeV, if_neg (by simpa using hE)]; rfl
    obtain ⟨-, -, -, ⟨m1, m2⟩, -⟩ := chkP_right h2
    obtain ⟨-, -, -, -, -, -, hr⟩ := chk_right h1
    rw [hV]
    by_cases hP : place f t z m zone = 0
    · right
      refine ⟨?_, m1, m2, hE, hP⟩
      rw [judge, if_neg (by simpa using hP), if_neg (by omega), if_neg]
      rintro (⟨-, h⟩ | ⟨rfl, h⟩)
      · omega
      · rw [ridesF, if_pos rfl, wi_iff] at hr
        omega
    · left
      rw [judge, if_pos hP]
      exact ⟨hP, Or.inr rfl⟩
  · left
    rw [judgeV, if_pos hE]
    exact ⟨hE, Or.inl rfl⟩

/-- the next one, behind a first ride -/
theorem judgeV_next (i k f t z r a g s m zone l : Int) (hE : errJ i k f t z r 0 ⟨a, g, s, m, zone⟩ [] = 0) (hP : place f t z m zone = 0) (h0 : 0 ≤ l) (h9 : l ≤ 9999 - m) (ht : m + l ≤ t) :
    judgeV i k f t z r 1 ⟨a, g, s, m + l, zone⟩ [⟨a, g, s, m, zone⟩] = if l < 60 then (2, 0) else if k = 1 then (3, 10) else (1, 0) := by
  obtain ⟨h1, h2, h3, h4, h5, h6⟩ := errJ_right hE
  obtain ⟨c1, c2, c3, ⟨m1, m2⟩, c5⟩ := chkP_right h2
  simp only [] at c1 c2 c3 m1 m2 c5
  obtain ⟨-, -, -, -, -, -, hr⟩ := chk_right h1
  have hn : chkT ⟨a, g, s, m + l, zone⟩ = 0 := by
    unfold chkT chkP
    simp only []
    rw [if_neg, if_neg (by simp [c5])]
    rw [(wi_iff _ _ _).2 c1, (wi_iff _ _ _).2 c2, (wi_iff _ _ _).2 c3, (wi_iff _ _ _).2 ⟨show 0 ≤ m + l by omega, by omega⟩]
    simp
  have hE2 : errJ i k f t z r 1 ⟨a, g, s, m + l, zone⟩ [⟨a, g, s, m, zone⟩] = 0 := by
    rw [errJ_end i k f t z r 1 _ _ h1 hn (by decide) (by simp [firstE, h2])]
    simp only [] at h5
    simp [h5]
  have hP2 : place f t z (m + l) zone = 0 := by
    unfold place at hP ⊢
    cases hw : wi m f t
    · simp [hw] at hP
    · rw [hw] at hP
      rw [wi_iff] at hw
      rw [(wi_iff _ _ _).2 ⟨show f ≤ m + l by omega, ht⟩]
      exact hP
  rw [judgeV, if_neg (by simpa using hE2), show lastT [(⟨a, g, s, m, zone⟩ : TP)] = m from rfl, judge]
  simp only []
  rw [if_neg (by simpa using hP2)]
  by_cases hl : l < 60
  · rw [if_pos hl, if_pos (by omega)]
  · rw [if_neg hl, if_neg (by omega)]
    by_cases k1 : k = 1
    · rw [if_pos k1, if_pos (Or.inl ⟨k1, by omega⟩)]
    · rw [if_neg k1, if_neg]
      rintro (⟨h, -⟩ | ⟨rfl, h⟩)
      · exact k1 h
      · rw [ridesF, if_pos rfl, wi_iff] at hr
        omega

set_option maxHeartbeats 6400000 in
theorem ruleGoesOn_walk (i k f t z r a g s m zone l : Int) (w : World) (hl0 : -9223372036854775808 ≤ l) (hl1 : l ≤ 9223372036854775807) :
    Calls Try.prog 6 #[tk i k f t z r, tp a g s m zone, .int .i64 l] w fun e w' => e = .returned (.bool true) ∧ Below w.heap.size w w' := by
  have HJ := hide (fun W => judge_any i k f t z r 0 a g s m zone none 0 [] W (tapsAt_nil _ _) (by simp))
  have hw := judgeV_first i k f t z r a g s m zone
  have HN := hide (fun hE hP h0 h9 ht => judgeV_next i k f t z r a g s m zone l hE hP h0 h9 ht)
  generalize judgeV i k f t z r 0 ⟨a, g, s, m, zone⟩ [] = V at HJ hw
  rcases hw with ⟨he, hv⟩ | ⟨rfl, m1, m2, hE, hP⟩
  · obtain ⟨v, e⟩ := V
    simp only [] at he hv
    have he' : (e != 0) = true := by simpa using he
    have he'' : (e == 0) = false := by simpa using he
    rcases hv with rfl | rfl
    all_goals
      clear HN he
      go_enter Try.func6, Try.ntmps6
      go_wp2_with fail
      refine (HJ.out _).mono ?_
      rintro e w1 ⟨rfl, hb1⟩
      have HB1 := hide (boxes2_of _ _ _ _ _ _ _ _ _ _ _ _ _ _ _ hb1)
      clear hb1
      go_wp2_with fail
      refine (ruleBegun_any _).mono ?_
      rintro e w2 ⟨rfl, hb2⟩
      have HB2 := hide (HB1.out.on hb2)
      clear hb2 HB1
      go_wp2_with fail
      go_ret
      exact ⟨rfl, HB2.out.2.2.2⟩
  · have HN' := hide (HN.out hE hP)
    clear HN hE hP
    have hc : l < 0 ∨ (¬ l < 0 ∧ 9999 - m < l) ∨ (¬ l < 0 ∧ ¬ 9999 - m < l ∧ t < m + l) ∨ (¬ l < 0 ∧ ¬ 9999 - m < l ∧ ¬ t < m + l) := by omega
    rcases hc with c1 | ⟨c1, c2⟩ | ⟨c1, c2, c3⟩ | ⟨c1, c2, c3⟩
    · go_enter Try.func6, Try.ntmps6
      go_wp2_with fail
      refine (HJ.out _).mono ?_
      rintro e w1 ⟨rfl, hb1⟩
      have HB1 := hide (boxes2_of _ _ _ _ _ _ _ _ _ _ _ _ _ _ _ hb1)
      clear hb1
      go_wp2_with fail
      refine (ruleBegun_any _).mono ?_
      rintro e w2 ⟨rfl, hb2⟩
      have HB2 := hide (HB1.out.on hb2)
      clear hb2 HB1
      go_wp2_with fail
      go_ret
      exact ⟨rfl, HB2.out.2.2.2⟩
    · go_enter Try.func6, Try.ntmps6
      go_wp2_with fail
      refine (HJ.out _).mono ?_
      rintro e w1 ⟨rfl, hb1⟩
      have HB1 := hide (boxes2_of _ _ _ _ _ _ _ _ _ _ _ _ _ _ _ hb1)
      clear hb1
      go_wp2_with fail
      refine (ruleBegun_any _).mono ?_
      rintro e w2 ⟨rfl, hb2⟩
      have HB2 := hide (HB1.out.on hb2)
      clear hb2 HB1
      obtain ⟨⟨x0, x1, x2, x3, x4, x5⟩, ⟨y0, y1, y2, y3, y4⟩, -, -⟩ := HB2.out
      simp only [Nat.zero_add] at x0 x1 x2 x3 x4 x5 y0 y1 y2 y3 y4
      go_wp2_with fail
      go_ret
      exact ⟨rfl, HB2.out.2.2.2⟩
    · go_enter Try.func6, Try.ntmps6
      go_wp2_with fail
      refine (HJ.out _).mono ?_
      rintro e w1 ⟨rfl, hb1⟩
      have HB1 := hide (boxes2_of _ _ _ _ _ _ _ _ _ _ _ _ _ _ _ hb1)
      clear hb1
      go_wp2_with fail
      refine (ruleBegun_any _).mono ?_
      rintro e w2 ⟨rfl, hb2⟩
      have HB2 := hide (HB1.out.on hb2)
      clear hb2 HB1
      obtain ⟨⟨x0, x1, x2, x3, x4, x5⟩, ⟨y0, y1, y2, y3, y4⟩, -, -⟩ := HB2.out
      simp only [Nat.zero_add] at x0 x1 x2 x3 x4 x5 y0 y1 y2 y3 y4
      go_wp2_with fail
      go_ret
      exact ⟨rfl, HB2.out.2.2.2⟩
    · have hV := HN'.out (by omega) (by omega) (by omega)
      clear HN'
      go_enter Try.func6, Try.ntmps6
      go_wp2_with fail
      refine (HJ.out _).mono ?_
      rintro e w1 ⟨rfl, hb1⟩
      have HB1 := hide (boxes2_of _ _ _ _ _ _ _ _ _ _ _ _ _ _ _ hb1)
      clear hb1
      go_wp2_with fail
      refine (ruleBegun_any _).mono ?_
      rintro e w2 ⟨rfl, hb2⟩
      have HB2 := hide (HB1.out.on hb2)
      clear hb2 HB1
      obtain ⟨⟨x0, x1, x2, x3, x4, x5⟩, ⟨y0, y1, y2, y3, y4⟩, -, -⟩ := HB2.out
      simp only [Nat.zero_add] at x0 x1 x2 x3 x4 x5 y0 y1 y2 y3 y4
      have hq1 : w.heap.size + 1 < w2.heap.size := HB2.out.2.2.1
      have hq0 : w.heap.size < w2.heap.size := by omega
      have HV := hide hV
      clear hV
      go_wp2_with fail
      refine (judge_any i k f t z r 1 a g s (m + l) zone _ 1 [⟨a, g, s, m, zone⟩] _ (tapsAt_one ?_) (by simp)).mono ?_
      · exact ⟨by simp [go_sem], by simp [go_sem], by simp [go_sem], by simp [go_sem], by simp [go_sem]⟩
      rintro e w3 ⟨rfl, hb3⟩
      rw [HV.out]
      clear HV
      have HB3 : Hid (Boxes2 w w3 ⟨i, k, f, t, z, r⟩ ⟨a, g, s, m, zone⟩) := by
        refine hide (HB2.out.on (Below.trans ?_ (hb3.mono ?_)))
        · repeat (first | with_reducible exact Below.refl _ _ | with_reducible refine Below.alloc ?_ (by simp) _ | with_reducible refine Below.setCell ?_ (by simp) _)
        · simp; omega
      clear hb3 HB2 x0 x1 x2 x3 x4 x5 y0 y1 y2 y3 y4 hq0 hq1
      obtain ⟨⟨x0, x1, x2, x3, x4, x5⟩, ⟨y0, y1, y2, y3, y4⟩, -, -⟩ := HB3.out
      simp only [Nat.zero_add] at x0 x1 x2 x3 x4 x5 y0 y1 y2 y3 y4
      by_cases hl : l < 60
      · rw [if_pos hl]
        go_wp2_with fail
        go_ret
        exact ⟨rfl, HB3.out.2.2.2⟩
      · rw [if_neg hl]
        by_cases k1 : k = 1
        · rw [if_pos k1]
          have k1' : (k == 1) = true := by simpa using k1
          clear k1
          go_wp2_with fail
          go_ret
          exact ⟨rfl, HB3.out.2.2.2⟩
        · rw [if_neg k1]
          have k1' : (k == 1) = false := by simpa using k1
          have k1'' : (k != 1) = true := by simpa using k1
          clear k1
          go_wp2_with fail
          go_ret
          exact ⟨rfl, HB3.out.2.2.2⟩
end Go.Proofs.Ytcakfmpckbmdeab
