/-
  The walk of RuleSpends.
-/
import Derived.Test.YtcakfmpckbmdeabP6
namespace Go.Proofs.Ytcakfmpckbmdeab
open Go.RowKit

theorem errJ_fewer {i k f t z r rides : Int} {p : TP} {L : List TP} (h : errJ i k f t z r rides p L = 0) (h0 : 0 < rides) : errJ i k f t z r (rides - 1) p L = 0 := by
  obtain ⟨h1, h2, h3, h4, h5, h6⟩ := errJ_right h
  have hw : wi (rides - 1) 0 60 = true := by
    rw [wi_iff] at h3 ⊢
    omega
  have h7 : firstE (L.map chkT) = 0 := by
    have := firstE_mem _ h
    clear h h1 h2 h3 h5 h6 this
    induction L with
    | nil => rfl
    | cons x L ih =>
      simp [firstE, h4 x (by simp)]
      exact ih (fun y hy => h4 y (by simp [hy]))
  rw [errJ_end i k f t z r (rides - 1) p L h1 h2 hw h7, if_neg]
  simp only [h5, bne_self_eq_false, Bool.false_or, List.any_eq_true, not_exists, not_and]
  intro x hx
  simp [h6 x hx]

/-- what follows of a verdict -/
theorem judgeV_ways (i k f t z r rides : Int) (p : TP) (L : List TP) :
    ((judgeV i k f t z r rides p L).2 ≠ 0 ∧ ((judgeV i k f t z r rides p L).1 = 0 ∨ (judgeV i k f t z r rides p L).1 = 3)) ∨
    ((judgeV i k f t z r rides p L).2 = 0 ∧ f ≤ p.m ∧ p.m ≤ t ∧ 0 ≤ rides ∧ rides ≤ 60 ∧ (((judgeV i k f t z r rides p L).1 = 2 ∧ L.length ≠ 0) ∨ ((judgeV i k f t z r rides p L).1 = 1 ∧ ¬ ((k = 1 ∧ 0 < rides) ∨ (k = 3 ∧ r ≤ rides)))) ∧
      (0 < rides → judgeV i k f t z r (rides - 1) p L = judgeV i k f t z r rides p L)) := by
  by_cases hE : errJ i k f t z r rides p L = 0
  · obtain ⟨h1, h2, h3, h4, h5, h6⟩ := errJ_right hE
    have hV : judgeV i k f t z r rides p L = judge k f t z r (lastT L) rides p.m p.z := by rw [judgeV, if_neg (by simpa using hE)]
    have hV' : 0 < rides → judgeV i k f t z r (rides - 1) p L = judge k f t z r (lastT L) (rides - 1) p.m p.z := fun h0 => by rw [judgeV, if_neg (by simpa using errJ_fewer hE h0)]
    rw [hV]
    rw [wi_iff] at h3
    by_cases hP : place f t z p.m p.z = 0
    · have hwi : f ≤ p.m ∧ p.m ≤ t := by
        unfold place at hP
        cases hw : wi p.m f t
        · simp [hw] at hP
        · exact (wi_iff _ _ _).1 hw
      by_cases hg : 0 ≤ lastT L ∧ lastT L ≤ p.m ∧ p.m < lastT L + 60
      · right
        have e : ∀ n, judge k f t z r (lastT L) n p.m p.z = (2, 0) := fun n => by rw [judge, if_neg (by simpa using hP), if_pos hg]
        rw [e] at *
        refine ⟨rfl, hwi.1, hwi.2, h3.1, h3.2, Or.inl ⟨rfl, ?_⟩, fun h0 => hV' h0⟩
        intro hl
        have : L = [] := List.eq_nil_of_length_eq_zero hl
        subst this
        simp [lastT] at hg
      · by_cases hs : (k = 1 ∧ 0 < rides) ∨ (k = 3 ∧ r ≤ rides)
        · left
          rw [judge, if_neg (by simpa using hP), if_neg hg, if_pos hs]
          exact ⟨by decide, Or.inr rfl⟩
        · right
          have e : judge k f t z r (lastT L) rides p.m p.z = (1, 0) := by rw [judge, if_neg (by simpa using hP), if_neg hg, if_neg hs]
          rw [e]
          refine ⟨rfl, hwi.1, hwi.2, h3.1, h3.2, Or.inr ⟨rfl, hs⟩, fun h0 => ?_⟩
          rw [hV' h0, judge, if_neg (by simpa using hP), if_neg hg, if_neg (by omega)]
    · left
      rw [judge, if_pos hP]
      exact ⟨hP, Or.inr rfl⟩
  · left
    rw [judgeV, if_pos hE]
    exact ⟨hE, Or.inl rfl⟩

set_option maxHeartbeats 6400000 in
theorem ruleSpends_walk (i k f t z r rides a g s m zone : Int) (o : Option Addr) (cap : Nat) (L : List TP) (w : World) (hL : TapsAt w o L) (hlen : L.length ≤ 9223372036854775807) :
    Calls Try.prog 5 #[tk i k f t z r, .slice o L.length cap, .int .i64 rides, tp a g s m zone] w fun e w' => e = .returned (.bool true) ∧ Below w.heap.size w w' := by
  have HL := hide hL
  clear hL
  have HJ := hide (fun W n (h : TapsAt W o L) => judge_any i k f t z r n a g s m zone o cap L W h hlen)
  have hw := judgeV_ways i k f t z r rides ⟨a, g, s, m, zone⟩ L
  simp only [] at hw
  have HJ1 := hide (fun W (h : TapsAt W o L) => HJ.out W rides h)
  have HJ2 : Hid ((0 < rides → judgeV i k f t z r (rides - 1) ⟨a, g, s, m, zone⟩ L = judgeV i k f t z r rides ⟨a, g, s, m, zone⟩ L) → 0 < rides → ∀ W, TapsAt W o L → Calls Try.prog 12 #[tk i k f t z r, .slice o L.length cap, .int .i64 (rides - 1), tp a g s m zone] W fun e w' =>
      e = .returned (.tuple #[.int .i64 (judgeV i k f t z r rides ⟨a, g, s, m, zone⟩ L).1, .int .i64 (judgeV i k f t z r rides ⟨a, g, s, m, zone⟩ L).2]) ∧ Below W.heap.size W w') := by
    refine hide (fun h h0 W hT => ?_)
    rw [← h h0]
    exact HJ.out W (rides - 1) hT
  clear HJ
  generalize judgeV i k f t z r rides ⟨a, g, s, m, zone⟩ L = V at *
  obtain ⟨v, e⟩ := V
  simp only [] at hw
  rcases hw with ⟨he, hv⟩ | ⟨he, hf, ht, hr0, hr6, hv, hfew⟩
  · have he' : (e != 0) = true := by simpa using he
    rcases hv with rfl | rfl
    all_goals
      clear HJ2 he
      go_enter Try.func5, Try.ntmps5
      go_wp2_with fail
      refine (HJ1.out _ (HL.out.below ?_)).mono ?_
      · repeat (first | with_reducible exact Below.refl _ _ | with_reducible refine Below.alloc ?_ (by simp; try omega) _ | with_reducible refine Below.setCell ?_ (by simp; try omega) _)
      rintro e w1 ⟨rfl, hb1⟩
      have HB1 := hide (boxes2_of _ _ _ _ _ _ _ _ _ _ _ _ _ _ _ hb1)
      clear hb1
      go_wp2_with fail
      refine (ruleBegun_any _).mono ?_
      rintro e w2 ⟨rfl, hb2⟩
      have HB2 := hide (HB1.out.on hb2)
      clear hb2 HB1
      go_wp2_with fail
      go_ret
      exact ⟨rfl, HB2.out.2.2.2⟩
  · subst he
    have HJ3 := hide (HJ2.out hfew)
    clear HJ2 hfew
    have hv' : (v = 2 ∧ L.length ≠ 0) ∨ (v = 1 ∧ (k == 1) = true ∧ ¬ 0 < rides ∧ (k == 3) = false) ∨ (v = 1 ∧ (k == 1) = false ∧ (k == 3) = true ∧ ¬ r ≤ rides) ∨ (v = 1 ∧ (k == 1) = false ∧ (k == 3) = false) := by
      rcases hv with h | ⟨h1, h2⟩
      · exact Or.inl h
      · right
        by_cases k1 : k = 1
        · subst k1
          exact Or.inl ⟨h1, rfl, by omega, rfl⟩
        · by_cases k3 : k = 3
          · subst k3
            exact Or.inr (Or.inl ⟨h1, rfl, rfl, by omega⟩)
          · exact Or.inr (Or.inr ⟨h1, by simpa using k1, by simpa using k3⟩)
    clear hv
    have hl' : v = 2 → ((L.length : Int) == 0) = false := by
      intro h
      rcases hv' with ⟨_, h2⟩ | ⟨h2, _⟩ | ⟨h2, _⟩ | ⟨h2, _⟩
      · simpa using h2
      all_goals omega
    have hf' : ¬ m < f := by omega
    have ht' : ¬ t < m := by omega
    by_cases hz : 0 < rides
    · have hz' : (rides == 0) = false := by simpa using (show rides ≠ 0 by omega)
      have HJ4 := hide (HJ3.out hz)
      clear HJ3
      rcases hv' with ⟨rfl, h2⟩ | ⟨rfl, h2, h3, h4⟩ | ⟨rfl, h2, h3, h4⟩ | ⟨rfl, h2, h3⟩
      all_goals first | (exfalso; omega; done) | skip
      all_goals try have hl'' := hl' rfl
      all_goals
        clear hl'
        go_enter Try.func5, Try.ntmps5
        go_wp2_with fail
        refine (HJ1.out _ (HL.out.below ?_)).mono ?_
        · repeat (first | with_reducible exact Below.refl _ _ | with_reducible refine Below.alloc ?_ (by simp; try omega) _ | with_reducible refine Below.setCell ?_ (by simp; try omega) _)
        rintro e w1 ⟨rfl, hb1⟩
        have HB1 := hide (boxes2_of _ _ _ _ _ _ _ _ _ _ _ _ _ _ _ hb1)
        clear hb1
        go_wp2_with fail
        refine (ruleBegun_any _).mono ?_
        rintro e w2 ⟨rfl, hb2⟩
        have HB2 := hide (HB1.out.on hb2)
        clear hb2 HB1
        obtain ⟨⟨x0, x1, x2, x3, x4, x5⟩, ⟨y0, y1, y2, y3, y4⟩, -, -⟩ := HB2.out
        simp only [Nat.zero_add] at x0 x1 x2 x3 x4 x5 y0 y1 y2 y3 y4
        go_wp2_with fail
        refine (HJ4.out _ (HL.out.below HB2.out.2.2.2)).mono ?_
        rintro e w3 ⟨rfl, hb3⟩
        have HB3 := hide (HB2.out.on hb3)
        clear hb3 HB2 x0 x1 x2 x3 x4 x5 y0 y1 y2 y3 y4
        go_wp2_with fail
        go_ret
        exact ⟨rfl, HB3.out.2.2.2⟩
    · obtain rfl : rides = 0 := by omega
      clear HJ3
      rcases hv' with ⟨rfl, h2⟩ | ⟨rfl, h2, h3, h4⟩ | ⟨rfl, h2, h3, h4⟩ | ⟨rfl, h2, h3⟩
      all_goals try have hl'' := hl' rfl
      all_goals
        clear hl'
        go_enter Try.func5, Try.ntmps5
        go_wp2_with fail
        refine (HJ1.out _ (HL.out.below ?_)).mono ?_
        · repeat (first | with_reducible exact Below.refl _ _ | with_reducible refine Below.alloc ?_ (by simp; try omega) _ | with_reducible refine Below.setCell ?_ (by simp; try omega) _)
        rintro e w1 ⟨rfl, hb1⟩
        have HB1 := hide (boxes2_of _ _ _ _ _ _ _ _ _ _ _ _ _ _ _ hb1)
        clear hb1
        go_wp2_with fail
        refine (ruleBegun_any _).mono ?_
        rintro e w2 ⟨rfl, hb2⟩
        have HB2 := hide (HB1.out.on hb2)
        clear hb2 HB1
        obtain ⟨⟨x0, x1, x2, x3, x4, x5⟩, ⟨y0, y1, y2, y3, y4⟩, -, -⟩ := HB2.out
        simp only [Nat.zero_add] at x0 x1 x2 x3 x4 x5 y0 y1 y2 y3 y4
        go_wp2_with fail
        go_ret
        exact ⟨rfl, HB2.out.2.2.2⟩
end Go.Proofs.Ytcakfmpckbmdeab
