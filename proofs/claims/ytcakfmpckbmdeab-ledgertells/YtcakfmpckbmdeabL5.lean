/-
  'ahead', 'checkTap', 'checkTickets', 'checkTaps', 'Check' (package ledger).
-/
import Derived.Test.YtcakfmpckbmdeabL4
namespace Go.Proofs.Ytcakfmpckbmdeab
open Go.RowKit

theorem ahead_any (o1 : Option Addr) (A A3 : Addr) (n1 c1 n2 c2 n3 c3 q : Nat) (w : World) (h2 : q ≤ c2) (h3 : q ≤ c3) (_hq : q ≤ 60) :
    Calls Try.prog 84 #[lg o1 (some A) (some A3) n1 c1 n2 c2 n3 c3, .int .i64 (q : Int)] w fun e w' => e = .returned (lg o1 (some A) (some A3) n1 c1 q c2 q c3) ∧ Below w.heap.size w w' := by
  go_enter Try.func84, Try.ntmps84
  go_wp2_with fail
  go_region
  go_wp2_with fail
  refine bodyPost_ret (v := lg o1 (some A) (some A3) n1 c1 q c2 q c3) (by simp [results, Try.results84, go_sem]) rfl ⟨rfl, ?_⟩
  exact (((Below.refl _ _).alloc (Nat.le_refl _) _).alloc (by simp) _).drew

theorem TapsAt.take {w : World} {o : Option Addr} {L : List TP} (h : TapsAt w o L) (n : Nat) : TapsAt w o (L.take n) := fun i p hi => by
  rw [List.getElem?_take] at hi
  split at hi
  · exact h i p hi
  · cases hi
theorem IntsAt.take {w : World} {o : Option Addr} {L : List Int} (h : IntsAt w o L) (n : Nat) : IntsAt w o (L.take n) := fun i p hi => by
  rw [List.getElem?_take] at hi
  split at hi
  · exact h i p hi
  · cases hi

/-- what is wrong at a tap that comes next, of which it was said what it is -/
def tapE (T : List TK) (P : List TP) (V : List Int) (p : TP) (said : Int) : Int :=
  firstE [unf T P p, if wi said 1 2 = true then 0 else 7, if earlyB P p.m = true then 4 else 0, if (judB T (P.zip V) p).1 = said then 0 else 4]

theorem unf_has {T : List TK} {P : List TP} {p : TP} (h : unf T P p = 0) : chkT p = 0 ∧ hasT T p.a = true ∧ twiceT P p = false := by
  have h0 := firstE_mem _ h
  refine ⟨h0 _ (by simp), ?_, ?_⟩
  · have := h0 (if hasT T p.a = true then 0 else 5) (by simp)
    cases hc : hasT T p.a
    · simp [hc] at this
    · rfl
  · have := h0 (if twiceT P p = true then 6 else 0) (by simp)
    cases hc : twiceT P p
    · rfl
    · simp [hc] at this

set_option maxHeartbeats 3200000 in
theorem checkTapB_any (T : List TK) (P : List TP) (V : List Int) (o1 o2 o3 : Option Addr) (c1 c2 c3 : Nat) (a g s m z said : Int) (w : World) (hT : TiksAt w o1 T) (hP : TapsAt w o2 P) (hV : IntsAt w o3 V) (hlen : T.length ≤ 12) (hlen2 : P.length ≤ 60) (hlv : V.length = P.length)
    (hr : Rising T) :
    Calls Try.prog 85 #[lg o1 o2 o3 T.length c1 P.length c2 V.length c3, tp a g s m z, .int .i64 said] w fun e w' => e = .returned (.int .i64 (tapE T P V ⟨a, g, s, m, z⟩ said)) ∧ Below w.heap.size w w' := by
  have HT := hide hT
  have HP := hide hP
  have HV := hide hV
  have HU := hide (fun W (h : TiksAt W o1 T) (h' : TapsAt W o2 P) => unfit_any T P o1 o2 o3 c1 c2 V.length c3 a g s m z W h h' hlen hlen2 hr)
  have HE := hide (fun W (h' : TapsAt W o2 P) => early_any P o1 o2 o3 T.length c1 c2 V.length c3 a g s m z W h' hlen2)
  have HJ := hide (fun W (hh : hasT T a = true) (h : TiksAt W o1 T) (h' : TapsAt W o2 P) (h'' : IntsAt W o3 V) => bookJudge_any T P V o1 o2 o3 c1 c2 c3 a g s m z W h h' h'' hlen hlen2 hlv hr hh)
  have hh : unf T P ⟨a, g, s, m, z⟩ = 0 → hasT T a = true := fun h => (unf_has h).2.1
  clear hT hP hV hlv hr
  generalize hX : tapE T P V ⟨a, g, s, m, z⟩ said = X
  unfold tapE at hX
  generalize unf T P ⟨a, g, s, m, z⟩ = U at *
  generalize judB T (P.zip V) ⟨a, g, s, m, z⟩ = J at *
  generalize hasT T a = hs at *
  simp only [] at hX
  generalize earlyB P m = E at *
  have hc : ((U != 0) = true ∧ X = U) ∨ (U = 0 ∧ (said != 1) = true ∧ (said != 2) = true ∧ X = 7) ∨
      (U = 0 ∧ ((said != 1) = false ∨ ((said != 1) = true ∧ (said != 2) = false)) ∧ E = true ∧ X = 4) ∨
      (U = 0 ∧ ((said != 1) = false ∨ ((said != 1) = true ∧ (said != 2) = false)) ∧ E = false ∧ (J.1 != said) = true ∧ X = 4) ∨
      (U = 0 ∧ ((said != 1) = false ∨ ((said != 1) = true ∧ (said != 2) = false)) ∧ E = false ∧ (J.1 != said) = false ∧ X = 0) := by
    rw [← hX]
    by_cases h1 : U = 0
    · by_cases h2 : said = 1 ∨ said = 2
      · have hw : wi said 1 2 = true := by rw [wi_iff]; omega
        cases E
        · by_cases h3 : J.1 = said
          · simp [firstE, h1, hw, h3]; omega
          · simp [firstE, h1, hw, h3]; omega
        · simp [firstE, h1, hw]; omega
      · have hw : wi said 1 2 = false := by
          cases hw : wi said 1 2
          · rfl
          · rw [wi_iff] at hw; omega
        have h2' : said ≠ 1 ∧ said ≠ 2 := by omega
        simp [firstE, h1, hw, h2'.1, h2'.2]
    · simp [firstE, h1]
  clear hX
  rcases hc with ⟨h1, rfl⟩ | ⟨rfl, h2, h3, rfl⟩ | ⟨rfl, h2, rfl, rfl⟩ | ⟨rfl, h2, rfl, h3, rfl⟩ | ⟨rfl, h2, rfl, h3, rfl⟩
  rotate_left 2
  all_goals try (rcases h2 with h2 | ⟨h2, h2'⟩)
  rotate_left 6
  all_goals
    go_enter Try.func85, Try.ntmps85
    go_wp2_with fail
    refine (HU.out _ (HT.out.below ?_) (HP.out.below ?_)).mono ?_
    · repeat (first | with_reducible exact Below.refl _ _ | with_reducible refine Below.alloc ?_ (by simp; try omega) _ | with_reducible refine Below.setCell ?_ (by simp; try omega) _)
    · repeat (first | with_reducible exact Below.refl _ _ | with_reducible refine Below.alloc ?_ (by simp; try omega) _ | with_reducible refine Below.setCell ?_ (by simp; try omega) _)
    rintro e w1 ⟨rfl, hb1⟩
    have HB1 := hide (boxesB_of _ _ _ _ _ _ _ _ _ _ _ _ _ _ _ _ _ _ hb1)
    clear hb1
    obtain ⟨⟨x0, x1, x2⟩, ⟨y0, y1, y2, y3, y4⟩, -, -⟩ := HB1.out
    simp only [Nat.zero_add] at x0 x1 x2 y0 y1 y2 y3 y4
    go_wp2_with fail
  · go_ret
    exact ⟨rfl, HB1.out.2.2.2⟩
  · go_ret
    exact ⟨rfl, HB1.out.2.2.2⟩
  all_goals
    refine (HE.out _ (HP.out.below HB1.out.2.2.2)).mono ?_
    rintro e w2 ⟨rfl, hb2⟩
    have HB2 := hide (HB1.out.on hb2)
    clear hb2 HB1 x0 x1 x2 y0 y1 y2 y3 y4
    obtain ⟨⟨x0, x1, x2⟩, ⟨y0, y1, y2, y3, y4⟩, -, -⟩ := HB2.out
    simp only [Nat.zero_add] at x0 x1 x2 y0 y1 y2 y3 y4
    go_wp2_with fail
  · go_ret
    exact ⟨rfl, HB2.out.2.2.2⟩
  · go_ret
    exact ⟨rfl, HB2.out.2.2.2⟩
  all_goals
    refine (HJ.out _ (hh trivial) (HT.out.below HB2.out.2.2.2) (HP.out.below HB2.out.2.2.2) (HV.out.below HB2.out.2.2.2)).mono ?_
    rintro e w3 ⟨rfl, hb3⟩
    have HB3 := hide (HB2.out.on hb3)
    clear hb3 HB2 x0 x1 x2 y0 y1 y2 y3 y4
    go_wp2_with fail
    go_ret
    exact ⟨rfl, HB3.out.2.2.2⟩

end Go.Proofs.Ytcakfmpckbmdeab
