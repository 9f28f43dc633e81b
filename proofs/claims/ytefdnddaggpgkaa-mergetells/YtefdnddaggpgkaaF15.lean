/-
  Merging, of lists: what is in order stays so, nothing is lost, and the order in which taps come does not matter.
-/
import Derived.Test.YtefdnddaggpgkaaF11
import Derived.Test.YtefdnddaggpgkaaM2
import Derived.Test.YtefdnddaggpgkaaM4
namespace Go.Proofs.Ytefdnddaggpgkaa
open Go.RowKit

theorem srt_dist {L : List TP} (h : DistP L) : DistP (srt L) := h.perm (srt_perm L).symm

theorem srt_srt {L : List TP} (h : DistP L) : srt (srt L) = srt L := (srt_eq (srt_ord h) (List.Perm.refl _) (srt_dist h)).symm

theorem srt_congr {L M : List TP} (h : L.Perm M) (hd : DistP M) : srt L = srt M :=
  srt_eq (srt_ord (hd.perm h.symm)) ((srt_perm L).trans h) hd

theorem ordE_perm {L M : List TP} (h : L.Perm M) (h0 : ordE L = 0) : ordE M = 0 := by
  obtain ⟨h1, h2, h3⟩ := ordE_right h0
  exact ordE_zero (by rw [← h.length_eq]; exact h1) (fun p hp => h2 p (h.mem_iff.2 hp)) (h3.perm h)

theorem ordE_srt {L : List TP} (h : ordE L = 0) : ordE (srt L) = 0 := ordE_perm (srt_perm L).symm h

theorem ordR_srt {L : List TP} (h : ordE L = 0) : ordR L = srt L := if_pos h

theorem ordR_again {L : List TP} (h : ordE L = 0) : ordE (ordR L) = 0 ∧ ordR (ordR L) = ordR L := by
  rw [ordR_srt h]
  exact ⟨ordE_srt h, by rw [ordR_srt (ordE_srt h)]; exact srt_srt (ordE_right h).2.2⟩

theorem ordR_len {L : List TP} (h : ordE L = 0) : (ordR L).length = L.length := by rw [ordR_srt h]; exact srt_len L

theorem ordR_bef {L : List TP} (h : ordE L = 0) {i : Nat} {p q : TP} (hp : (ordR L)[i]? = some p) (hq : (ordR L)[i + 1]? = some q) : befP p q := by
  rw [ordR_srt h] at hp hq
  obtain ⟨h1, rfl⟩ := List.getElem?_eq_some_iff.1 hp
  obtain ⟨h2, rfl⟩ := List.getElem?_eq_some_iff.1 hq
  exact List.pairwise_iff_getElem.1 (srt_ord (ordE_right h).2.2) i (i + 1) h1 h2 (by omega)

theorem ord_of_next : ∀ {L : List TP}, (∀ i p q, L[i]? = some p → L[i + 1]? = some q → befP p q) → Ord L
  | [], _ => List.Pairwise.nil
  | [p], _ => List.pairwise_singleton _ _
  | p :: q :: L, h => by
    have h1 : befP p q := h 0 p q rfl rfl
    have h2 : Ord (q :: L) := ord_of_next (fun i x y hx hy => h (i + 1) x y (by simpa using hx) (by simpa using hy))
    refine List.pairwise_cons.2 ⟨fun x hx => ?_, h2⟩
    rcases List.mem_cons.1 hx with rfl | hx
    · exact h1
    · exact befP_trans h1 ((List.pairwise_cons.1 h2).1 x hx)

/-- a builder loses nothing -/
theorem bldA_perm (T : List TK) : ∀ (L P : List TP) (V : List Int) (D : List TP), (bldA T L P V D).1 = 0 → ((bldA T L P V D).2.1 ++ (bldA T L P V D).2.2.2).Perm ((P ++ D) ++ L)
  | [], P, V, D, _ => by simp [bldA]
  | p :: L, P, V, D, h => by
    unfold bldA at h ⊢
    by_cases h1 : bldE T P V p = 0
    · rw [if_pos h1] at h ⊢
      refine (bldA_perm T L _ _ _ h).trans ?_
      unfold bldE at h1
      unfold bldP bldD
      by_cases h2 : (enterV T P V p).2 = 0
      · rw [if_pos h2, if_pos h2]
        have : ((P ++ [p]) ++ D).Perm ((P ++ D) ++ [p]) := by
          rw [List.append_assoc, List.append_assoc]
          exact List.Perm.append_left P List.perm_append_comm
        simpa using this.append_right L
      · rw [if_neg h2] at h1
        by_cases h3 : (enterV T P V p).1 = 3 ∨ (enterV T P V p).2 = 5
        · rw [if_neg h2, if_neg h2, if_pos h3]
          simp
        · rw [if_neg h3] at h1
          exact absurd h1 h2
    · rw [if_neg h1] at h
      exact absurd h h1

/-- what a builder makes of a right ledger is right -/
theorem bldA_chk (T : List TK) : ∀ (L P : List TP) (V : List Int) (D : List TP), chkL T P V = 0 → chkL T (bldA T L P V D).2.1 (bldA T L P V D).2.2.1 = 0
  | [], P, V, D, h => h
  | p :: L, P, V, D, h => by
    unfold bldA
    by_cases h1 : bldE T P V p = 0
    · rw [if_pos h1]
      refine bldA_chk T L _ _ _ ?_
      unfold bldP bldV
      by_cases h2 : (enterV T P V p).2 = 0
      · rw [if_pos h2, if_pos h2]
        exact enter_chk h2
      · rw [if_neg h2, if_neg h2]
        exact h
    · rw [if_neg h1]
      exact h

/-- taps that are in the ledger, in their order, come as they were -/
theorem bldA_again {T : List TK} {P : List TP} {V : List Int} (h : chkL T P V = 0) (hl : V.length = P.length) : ∀ (k n : Nat), n + k = P.length → bldA T (P.drop n) (P.take n) (V.take n) [] = (0, P, V, [])
  | 0, n, hn => by
    rw [List.drop_of_length_le (by omega), List.take_of_length_le (by omega), List.take_of_length_le (by omega)]
    rfl
  | k + 1, n, hn => by
    have hnP : n < P.length := by omega
    have hnV : n < V.length := by omega
    have he := prefix_enter h (n := n) (p := P[n]) (v := V[n]) (by simp [hnP]) (by simp [hnV])
    rw [List.drop_eq_getElem_cons hnP]
    unfold bldA
    have hb : bldE T (P.take n) (V.take n) P[n] = 0 := by simp [bldE, he]
    rw [if_pos hb]
    have e1 : bldP T (P.take n) (V.take n) P[n] = P.take (n + 1) := by rw [bldP, if_pos (by rw [he]), List.take_succ_eq_append_getElem hnP]
    have e2 : bldV T (P.take n) (V.take n) P[n] = V.take (n + 1) := by rw [bldV, if_pos (by rw [he]), List.take_succ_eq_append_getElem hnV, he]
    have e3 : bldD T (P.take n) (V.take n) [] P[n] = [] := by rw [bldD, if_pos (by rw [he])]
    rw [e1, e2, e3]
    exact bldA_again h hl k (n + 1) (by omega)

theorem chkL_nil {T : List TK} {P : List TP} {V : List Int} (h : chkL T P V = 0) : chkL T [] [] = 0 := by
  simpa using prefix_chk h 0 (Nat.zero_le _)

/-- what came, when Into is right -/
theorem into_right {T : List TK} {P : List TP} {V : List Int} {M : List TP} (h : intoE T P V M = 0) : chkL T P V = 0 ∧ M.length ≤ 12 ∧ ordE (P ++ M) = 0 ∧ (intoB T P M).1 = 0 ∧ intoT T P V M = T ∧ intoP T P V M = (intoB T P M).2.1 ∧ intoV T P V M = (intoB T P M).2.2.1 ∧ intoD T P V M = (intoB T P M).2.2.2 := by
  have hh : intoT T P V M = T ∧ intoP T P V M = (intoB T P M).2.1 ∧ intoV T P V M = (intoB T P M).2.2.1 ∧ intoD T P V M = (intoB T P M).2.2.2 := ⟨if_pos h, if_pos h, if_pos h, if_pos h⟩
  rcases into_ways T P V M with ⟨h1, h2⟩ | ⟨h1, h3, h2⟩ | ⟨h1, h3, h4, h2⟩ | ⟨h1, h3, h4, h5, h2⟩ | ⟨h1, h3, h4, h5, h2⟩
  · rw [h2] at h; simp [h] at h1
  · rw [h2] at h; cases h
  · rw [h2] at h; simp [h] at h4
  · rw [h2] at h; simp [h] at h5
  · exact ⟨h1, h3, h4, h5, hh⟩

/-- nothing is lost -/
theorem into_perm {T : List TK} {P : List TP} {V : List Int} {M : List TP} (h : intoE T P V M = 0) : (intoP T P V M ++ intoD T P V M).Perm (P ++ M) := by
  obtain ⟨h1, h2, h3, h4, -, e2, -, e4⟩ := into_right h
  rw [e2, e4]
  refine (bldA_perm T (srt (P ++ M)) [] [] [] h4).trans ?_
  simpa using srt_perm (P ++ M)

theorem into_chk {T : List TK} {P : List TP} {V : List Int} {M : List TP} (h : intoE T P V M = 0) : chkL (intoT T P V M) (intoP T P V M) (intoV T P V M) = 0 := by
  obtain ⟨h1, h2, h3, h4, e1, e2, e3, -⟩ := into_right h
  rw [e1, e2, e3]
  exact bldA_chk T _ _ _ _ (chkL_nil h1)

/-- both, ordered, are what came, ordered -/
theorem into_both {T : List TK} {P : List TP} {V : List Int} {M : List TP} (h : intoE T P V M = 0) : ordE (P ++ M) = 0 ∧ ordE (intoP T P V M ++ intoD T P V M) = 0 ∧ ordR (intoP T P V M ++ intoD T P V M) = ordR (P ++ M) := by
  have h3 := (into_right h).2.2.1
  have hp := into_perm h
  have h5 := ordE_perm hp.symm h3
  exact ⟨h3, h5, by rw [ordR_srt h3, ordR_srt h5]; exact srt_congr hp (ordE_right h3).2.2⟩

/-- the order in which they come does not matter -/
theorem into_order {T : List TK} {P : List TP} {V : List Int} {M N : List TP} (hp : M.Perm N) (h : intoE T P V M = 0) : intoE T P V N = 0 ∧ intoT T P V N = intoT T P V M ∧ intoP T P V N = intoP T P V M ∧ intoV T P V N = intoV T P V M ∧ intoD T P V N = intoD T P V M := by
  obtain ⟨h1, h2, h3, h4, e1, e2, e3, e4⟩ := into_right h
  have hpp : (P ++ M).Perm (P ++ N) := hp.append_left P
  have h3' := ordE_perm hpp h3
  have hb : intoB T P N = intoB T P M := by
    unfold intoB
    rw [srt_congr hpp (ordE_right h3').2.2]
  have h0 : intoE T P V N = 0 := by
    unfold intoE
    rw [if_pos h1, if_neg (by rw [← hp.length_eq]; omega), if_pos h3', hb, h4]
  obtain ⟨-, -, -, -, f1, f2, f3, f4⟩ := into_right h0
  exact ⟨h0, by rw [e1, f1], by rw [e2, f2, hb], by rw [e3, f3, hb], by rw [e4, f4, hb]⟩

/-- with nothing more the ledger is as it was, if its taps are in order -/
theorem into_none {T : List TK} {P : List TP} {V : List Int} (h : intoE T P V [] = 0) (ho : ∀ i p q, P[i]? = some p → P[i + 1]? = some q → befP p q) : intoT T P V [] = T ∧ intoP T P V [] = P ∧ intoV T P V [] = V ∧ intoD T P V [] = [] := by
  obtain ⟨h1, h2, h3, h4, e1, e2, e3, e4⟩ := into_right h
  have hs : srt (P ++ []) = P := by
    rw [List.append_nil] at h3 ⊢
    exact (srt_eq (ord_of_next ho) (List.Perm.refl _) (ordE_right h3).2.2).symm
  have hb : intoB T P [] = (0, P, V, []) := by
    unfold intoB
    rw [hs]
    simpa using bldA_again h1 (chkL_lens h1).2.2 P.length 0 (by omega)
  rw [e1, e2, e3, e4, hb]
  exact ⟨rfl, rfl, rfl, rfl⟩

theorem into_lens {T : List TK} {P : List TP} {V : List Int} {M : List TP} (h : intoE T P V M = 0) : (intoD T P V M).length + (intoP T P V M).length = P.length + M.length := by
  have := (into_perm h).length_eq
  simp at this
  omega

theorem into_small {T : List TK} {P : List TP} {V : List Int} {M : List TP} (h : intoE T P V M = 0) : T.length ≤ 12 ∧ P.length ≤ 60 ∧ V.length = P.length ∧ M.length ≤ 12 := by
  have h1 := (into_right h).1
  have := chkL_lens h1
  exact ⟨this.1, this.2.1, this.2.2, (into_right h).2.1⟩
end Go.Proofs.Ytefdnddaggpgkaa
