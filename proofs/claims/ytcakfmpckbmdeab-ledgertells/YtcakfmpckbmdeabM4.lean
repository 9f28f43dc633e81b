/-
  What follows of a ticket that is sold, and of a beginning of a ledger.
-/
import Derived.Test.YtcakfmpckbmdeabM2
namespace Go.Proofs.Ytcakfmpckbmdeab
open Go.RowKit

theorem rising_iff (T : List TK) : Rising T ↔ T.Pairwise (fun x y => x.i < y.i) := by
  rw [List.pairwise_iff_getElem]
  constructor
  · intro h i j hi hj hij
    exact h i j T[i] T[j] (by simp) (by simp) hij
  · intro h p q x y hx hy hpq
    obtain ⟨h1, rfl⟩ := List.getElem?_eq_some_iff.1 hx
    obtain ⟨h2, rfl⟩ := List.getElem?_eq_some_iff.1 hy
    exact h p q h1 h2 hpq

theorem ticksE_of {T : List TK} (hr : Rising T) (hc : ∀ x ∈ T, chkK x = 0) : ticksE T = 0 := by
  refine ticksE_ok fun j hj => ?_
  obtain ⟨p, hp⟩ : ∃ p, T[j]? = some p := ⟨T[j], by simp [hj]⟩
  rcases errK_cases hp with ⟨h1, h2⟩ | ⟨h1, h2, h3, h4⟩ | ⟨h1, h2, h3⟩
  · exact absurd (hc p (List.mem_of_getElem? hp)) h1
  · exfalso
    obtain ⟨y, hy⟩ : ∃ y, T[j - 1]? = some y := ⟨T[j - 1]'(by omega), by simp⟩
    have := hr (j - 1) j y p hy hp (by omega)
    rw [show T.getD (j - 1) tk0 = y by simp [List.getD, hy]] at h3
    omega
  · exact h3

theorem idx_get {T : List TK} (hr : Rising T) {x : TK} (hx : x ∈ T) {id : Int} (h : x.i = id) : T.getD (idxT T id).toNat tk0 = x := by
  have hh : hasT T id = true := by
    rw [hasT, List.any_eq_true]
    exact ⟨x, hx, by simp [h]⟩
  obtain ⟨y, hy, hyi, hyx⟩ := hasT_pos hr hh
  have : y = x := by
    obtain ⟨q, hq⟩ := List.mem_iff_getElem?.1 hx
    rcases Nat.lt_trichotomy (posT T id) q with h' | h' | h'
    · have := hr _ _ _ _ hy hq h'; omega
    · rw [h', hq] at hy; cases hy; rfl
    · have := hr _ _ _ _ hq hy h'; omega
  rw [hyx, show ((posT T id : Int)).toNat = posT T id from rfl]
  simp [List.getD, hy, this]

theorem soldT_mem {T : List TK} {t x : TK} : x ∈ soldT T t ↔ x ∈ T ∨ x = t := by
  unfold soldT
  simp only [List.mem_append, List.mem_singleton]
  constructor
  · rintro ((h | h) | h)
    · exact Or.inl (List.mem_of_mem_take h)
    · exact Or.inr h
    · exact Or.inl (List.mem_of_mem_drop h)
  · rintro (h | h)
    · rw [← List.take_append_drop (posT T t.i) T, List.mem_append] at h
      rcases h with h | h
      · exact Or.inl (Or.inl h)
      · exact Or.inr h
    · exact Or.inl (Or.inr h)

theorem soldT_len {T : List TK} {t : TK} : (soldT T t).length = T.length + 1 := by
  have h : posT T t.i ≤ T.length := by unfold posT; exact List.findIdx_le_length
  unfold soldT
  simp
  omega

theorem soldT_rising {T : List TK} {t : TK} (hr : Rising T) (hn : hasT T t.i = false) : Rising (soldT T t) := by
  have hp := (rising_iff T).1 hr
  rw [hasT, List.any_eq_false] at hn
  have hlo : ∀ x ∈ T.take (posT T t.i), x.i < t.i := by
    intro x hx
    obtain ⟨j, hj⟩ := List.mem_iff_getElem?.1 hx
    rw [List.getElem?_take] at hj
    split at hj
    · rename_i hlt
      obtain ⟨h1, rfl⟩ := List.getElem?_eq_some_iff.1 hj
      have := List.not_of_lt_findIdx (p := fun x : TK => decide (t.i ≤ x.i)) hlt
      simpa using this
    · cases hj
  have hhi : ∀ x ∈ T.drop (posT T t.i), t.i < x.i := by
    intro x hx
    have hne := hn x (List.mem_of_mem_drop hx)
    obtain ⟨j, hj⟩ := List.mem_iff_getElem?.1 hx
    rw [List.getElem?_drop] at hj
    obtain ⟨h1, rfl⟩ := List.getElem?_eq_some_iff.1 hj
    have hlt : posT T t.i < T.length := by omega
    have h0 := List.findIdx_getElem (p := fun x : TK => decide (t.i ≤ x.i)) (w := hlt)
    have h0' : t.i ≤ (T[posT T t.i]'hlt).i := of_decide_eq_true h0
    have hle : (T[posT T t.i]'hlt).i ≤ (T[posT T t.i + j]'h1).i := by
      rcases Nat.eq_zero_or_pos j with rfl | hj0
      · simp
      · have := hr (posT T t.i) (posT T t.i + j) (T[posT T t.i]'hlt) (T[posT T t.i + j]'h1) (by simp) (by simp) (by omega)
        omega
    simp at hne
    omega
  rw [rising_iff]
  rw [← List.take_append_drop (posT T t.i) T, List.pairwise_append] at hp
  unfold soldT
  rw [List.pairwise_append, List.pairwise_append]
  refine ⟨⟨hp.1, by simp, fun x hx y hy => ?_⟩, hp.2.1, fun x hx y hy => ?_⟩
  · simp at hy
    subst hy
    exact hlo x hx
  · rw [List.mem_append, List.mem_singleton] at hx
    rcases hx with hx | rfl
    · exact hp.2.2 x hx y hy
    · exact hhi y hy

theorem sell_right {T : List TK} {P : List TP} {V : List Int} {t : TK} (h : sellE T P V t = 0) : chkL T P V = 0 ∧ chkK t = 0 ∧ hasT T t.i = false ∧ T.length ≠ 12 := by
  have h0 := firstE_mem _ h
  refine ⟨h0 _ (by simp), h0 _ (by simp), ?_, ?_⟩
  · have := h0 (if hasT T t.i = true then 6 else 0) (by simp)
    cases hc : hasT T t.i
    · rfl
    · simp [hc] at this
  · have := h0 (if T.length = 12 then 2 else 0) (by simp)
    intro hc
    simp [hc] at this

theorem sell_chk {T : List TK} {P : List TP} {V : List Int} {t : TK} (h : sellE T P V t = 0) : chkL (soldT T t) P V = 0 := by
  obtain ⟨h1, h2, h3, h4⟩ := sell_right h
  obtain ⟨r1, r2, r3, r4, r5⟩ := chkL_right h1
  have hr := rising_of r4
  have hr' := soldT_rising hr h3
  have htk : ticksE (soldT T t) = 0 := ticksE_of hr' (fun x hx => by
    rcases soldT_mem.1 hx with hx | rfl
    · exact checked_of r4 x hx
    · exact h2)
  refine chkL_ok (by rw [soldT_len]; omega) (ticksE_all htk) (fun j hj => ?_)
  have hE := tapsE_all r5 j hj
  have h0 := firstE_mem _ hE
  have hh : hasT T (P.getD j tp0).a = true := by
    have := h0 (if idxT T (P.getD j tp0).a < 0 then 5 else 0) (by simp)
    cases hc : hasT T (P.getD j tp0).a
    · rw [if_pos (hasT_idx.2 hc)] at this; cases this
    · rfl
  obtain ⟨x, hx, hxi, -⟩ := hasT_pos hr hh
  have hxT := List.mem_of_getElem? hx
  have g1 := idx_get hr hxT hxi
  have g2 := idx_get hr' (soldT_mem.2 (Or.inl hxT)) hxi
  have hn : ¬ idxT (soldT T t) (P.getD j tp0).a < 0 := fun hlt => by
    have h6 := hasT_idx.1 hlt
    have h7 := hasT_mem (soldT_mem.2 (Or.inl hxT) : x ∈ soldT T t)
    rw [hxi, h6] at h7
    cases h7
  have hn' : ¬ idxT T (P.getD j tp0).a < 0 := fun hlt => by rw [hasT_idx.1 hlt] at hh; cases hh
  rw [← hE]
  unfold errP verd
  rw [g1, g2, if_neg hn, if_neg hn']

theorem judge_snd {k f t z r last rides m zone : Int} (h : (judge k f t z r last rides m zone).1 ≠ 3) : (judge k f t z r last rides m zone).2 = 0 := by
  unfold judge at h ⊢
  by_cases h1 : place f t z m zone = 0
  · rw [if_neg (by simpa using h1)] at h ⊢
    by_cases h2 : 0 ≤ last ∧ last ≤ m ∧ m < last + 60
    · rw [if_pos h2]
    · rw [if_neg h2] at h ⊢
      by_cases h3 : (k = 1 ∧ 0 < rides) ∨ (k = 3 ∧ r ≤ rides)
      · rw [if_pos h3] at h; simp at h
      · rw [if_neg h3]
  · rw [if_pos h1] at h
    simp at h

theorem errP_take {T : List TK} {P : List TP} {V : List Int} (n j : Nat) (hj : j < n) : errP T (P.take n) (V.take n) j = errP T P V j := by
  have g1 : (P.take n).getD j tp0 = P.getD j tp0 := by simp only [List.getD, List.getElem?_take, if_pos hj]
  have g2 : (P.take n).getD (j - 1) tp0 = P.getD (j - 1) tp0 := by simp only [List.getD, List.getElem?_take, if_pos (show j - 1 < n by omega)]
  have g3 : (V.take n).getD j 0 = V.getD j 0 := by simp only [List.getD, List.getElem?_take, if_pos hj]
  have g4 : (P.take n).take j = P.take j := by rw [List.take_take, Nat.min_eq_left (by omega)]
  have g5 : ((P.take n).zip (V.take n)).take j = (P.zip V).take j := by rw [zip_take, List.take_take, Nat.min_eq_left (by omega)]
  unfold errP verd
  rw [g1, g2, g3, g4, g5]

/-- EACH BEGINNING OF A LEDGER'S TAPS IS A LEDGER -/
theorem prefix_chk {T : List TK} {P : List TP} {V : List Int} (h : chkL T P V = 0) (n : Nat) (hn : n ≤ P.length) : chkL T (P.take n) (V.take n) = 0 := by
  obtain ⟨r1, r2, r3, r4, r5⟩ := chkL_right h
  refine chkL_ok (by rw [List.length_take, List.length_take]; omega) (ticksE_all r4) (fun j hj => ?_)
  rw [List.length_take] at hj
  rw [errP_take n j (by omega)]
  exact tapsE_all r5 j (by omega)

/-- .. from which its next tap leads on -/
theorem prefix_enter {T : List TK} {P : List TP} {V : List Int} (h : chkL T P V = 0) {n : Nat} {p : TP} {v : Int} (hp : P[n]? = some p) (hv : V[n]? = some v) : enterV T (P.take n) (V.take n) p = (v, 0) := by
  obtain ⟨r1, r2, r3, r4, r5⟩ := chkL_right h
  have hn := (List.getElem?_eq_some_iff.1 hp).1
  have hck := prefix_chk h n (by omega)
  have hall : ∀ x ∈ P.take n, chkT x = 0 := fun x hx => errP_all_chk r5 x (List.mem_of_mem_take hx)
  have e := tapE_errP (V := V) (rising_of r4) (checked_of r4) (by omega) hall hp hv
  rw [tapsE_all r5 n hn] at e
  have h0 := firstE_mem _ e
  have u : unf T (P.take n) p = 0 := h0 _ (by simp)
  have hu := unf_has u
  have hw : wi v 1 2 = true := by
    have := h0 (if wi v 1 2 = true then 0 else 7) (by simp)
    cases hc : wi v 1 2
    · simp [hc] at this
    · rfl
  have hea : earlyB (P.take n) p.m = false := by
    have := h0 (if earlyB (P.take n) p.m = true then 4 else 0) (by simp)
    cases hc : earlyB (P.take n) p.m
    · rfl
    · simp [hc] at this
  have hj : (judB T ((P.take n).zip (V.take n)) p).1 = v := by
    have := h0 (if (judB T ((P.take n).zip (V.take n)) p).1 = v then 0 else 4) (by simp)
    by_cases hc : (judB T ((P.take n).zip (V.take n)) p).1 = v
    · exact hc
    · rw [if_neg hc] at this; cases this
  have hj2 : (judB T ((P.take n).zip (V.take n)) p).2 = 0 := by
    rw [wi_iff] at hw
    have ev := judB_verd (V := V) (i := n) (rising_of r4) (checked_of r4) hall (by omega) hu.1 hu.2.1
    rw [zip_take] at hj ⊢
    rw [ev] at hj ⊢
    unfold verd at hj ⊢
    exact judge_snd (by omega)
  have hl : ¬ (P.take n).length = 60 := by rw [List.length_take]; omega
  simp only [enterV, hck, u, hea, hj2, hl, hj]
  simp
end Go.Proofs.Ytcakfmpckbmdeab
