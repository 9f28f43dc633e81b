/-
  What follows of a tap that was entered: the ledger is right, and the rides are as they must be.
-/
import Derived.Test.YtcakfmpckbmdeabS2
namespace Go.Proofs.Ytcakfmpckbmdeab
open Go.RowKit

theorem zip_snoc {P : List TP} {V : List Int} (h : V.length = P.length) (p : TP) (v : Int) : (P ++ [p]).zip (V ++ [v]) = P.zip V ++ [(p, v)] := by
  rw [List.zip_append h.symm]
  rfl

theorem tapsE_all {T : List TK} {P : List TP} {V : List Int} (h : tapsE T P V = 0) : ∀ j, j < P.length → errP T P V j = 0 := fun j hj => firstE_mem _ h _ (List.mem_map.2 ⟨j, List.mem_range.2 hj, rfl⟩)

theorem errP_old {T : List TK} {P : List TP} {V : List Int} (h : V.length = P.length) (p : TP) (v : Int) (j : Nat) (hj : j < P.length) : errP T (P ++ [p]) (V ++ [v]) j = errP T P V j := by
  have g1 : (P ++ [p]).getD j tp0 = P.getD j tp0 := by simp only [List.getD, List.getElem?_append_left hj]
  have g2 : (P ++ [p]).getD (j - 1) tp0 = P.getD (j - 1) tp0 := by simp only [List.getD, List.getElem?_append_left (show j - 1 < P.length by omega)]
  have g3 : (V ++ [v]).getD j 0 = V.getD j 0 := by simp only [List.getD, List.getElem?_append_left (show j < V.length by omega)]
  have g4 : (P ++ [p]).take j = P.take j := List.take_append_of_le_length (by omega)
  have g5 : ((P ++ [p]).zip (V ++ [v])).take j = (P.zip V).take j := by rw [zip_snoc h, List.take_append_of_le_length (by rw [List.length_zip]; omega)]
  unfold errP verd
  rw [g1, g2, g3, g4, g5]

theorem errP_all_chk {T : List TK} {P : List TP} {V : List Int} (h : tapsE T P V = 0) : ∀ x ∈ P, chkT x = 0 := by
  intro x hx
  obtain ⟨j, hj⟩ := List.mem_iff_getElem?.1 hx
  exact errP_chk hj (tapsE_all h j (List.getElem?_eq_some_iff.1 hj).1)

theorem enter_right {T : List TK} {P : List TP} {V : List Int} {p : TP} (h : (enterV T P V p).2 = 0) :
    chkL T P V = 0 ∧ unf T P p = 0 ∧ earlyB P p.m = false ∧ (judB T (P.zip V) p).2 = 0 ∧ P.length < 60 ∧ (enterV T P V p).1 = (judB T (P.zip V) p).1 := by
  by_cases h1 : chkL T P V = 0
  · by_cases h2 : unf T P p = 0
    · cases h3 : earlyB P p.m
      · by_cases h4 : (judB T (P.zip V) p).2 = 0
        · by_cases h5 : P.length = 60
          · simp [enterV, h1, h2, h3, h4, h5] at h
          · have := (chkL_right h1).2.1
            refine ⟨h1, h2, rfl, h4, by omega, ?_⟩
            simp [enterV, h1, h2, h3, h4, h5]
        · simp [enterV, h1, h2, h3, h4] at h
      · simp [enterV, h1, h2, h3] at h
    · simp [enterV, h1, h2] at h
  · simp [enterV, h1] at h

theorem judge_ok {k f t z r last rides m zone : Int} (h : (judge k f t z r last rides m zone).2 = 0) : (judge k f t z r last rides m zone).1 = 2 ∨ ((judge k f t z r last rides m zone).1 = 1 ∧ ¬ ((k = 1 ∧ 0 < rides) ∨ (k = 3 ∧ r ≤ rides))) := by
  unfold judge at h ⊢
  by_cases h1 : place f t z m zone = 0
  · rw [if_neg (by simpa using h1)] at h ⊢
    by_cases h2 : 0 ≤ last ∧ last ≤ m ∧ m < last + 60
    · rw [if_pos h2]; exact Or.inl rfl
    · rw [if_neg h2] at h ⊢
      by_cases h3 : (k = 1 ∧ 0 < rides) ∨ (k = 3 ∧ r ≤ rides)
      · rw [if_pos h3] at h; simp at h
      · rw [if_neg h3]; exact Or.inr ⟨rfl, h3⟩
  · rw [if_pos h1] at h
    exact absurd h h1

theorem judge_one {k f t z r last rides m zone : Int} (h : (judge k f t z r last rides m zone).1 = 1) : ¬ ((k = 1 ∧ 0 < rides) ∨ (k = 3 ∧ r ≤ rides)) := by
  unfold judge at h
  by_cases h1 : place f t z m zone = 0
  · rw [if_neg (by simpa using h1)] at h
    by_cases h2 : 0 ≤ last ∧ last ≤ m ∧ m < last + 60
    · rw [if_pos h2] at h; simp at h
    · rw [if_neg h2] at h
      intro h3
      rw [if_pos h3] at h
      simp at h
  · rw [if_pos h1] at h
    simp at h

/-- the verdict of what was entered -/
theorem enter_verd {T : List TK} {P : List TP} {V : List Int} {p : TP} (h : (enterV T P V p).2 = 0) : (enterV T P V p).1 = 1 ∨ (enterV T P V p).1 = 2 := by
  obtain ⟨h1, h2, h3, h4, h5, h6⟩ := enter_right h
  obtain ⟨r1, r2, r3, r4, r5⟩ := chkL_right h1
  have hu := unf_has h2
  have e := judB_verd (V := V) (i := P.length) (rising_of r4) (checked_of r4) (fun x hx => errP_all_chk r5 x (List.mem_of_mem_take hx)) r2 hu.1 hu.2.1
  rw [List.take_of_length_le (by rw [List.length_zip]; omega)] at e
  rw [h6, e]
  rw [e] at h4
  unfold verd at h4 ⊢
  rcases judge_ok h4 with h | h
  · exact Or.inr h
  · exact Or.inl h.1

/-- WHATEVER IS ENTERED, THE LEDGER IS RIGHT -/
theorem enter_chk {T : List TK} {P : List TP} {V : List Int} {p : TP} (h : (enterV T P V p).2 = 0) : chkL T (P ++ [p]) (V ++ [(enterV T P V p).1]) = 0 := by
  obtain ⟨h1, h2, h3, h4, h5, h6⟩ := enter_right h
  obtain ⟨r1, r2, r3, r4, r5⟩ := chkL_right h1
  refine chkL_ok (by simp; omega) (ticksE_all r4) (fun j hj => ?_)
  rw [List.length_append, List.length_singleton] at hj
  rcases Nat.lt_or_ge j P.length with hlt | hge
  · rw [errP_old r3 p _ j hlt]
    exact tapsE_all r5 j hlt
  · obtain rfl : j = P.length := by omega
    have t1 : (P ++ [p]).take P.length = P := by simp
    have t2 : (V ++ [(enterV T P V p).1]).take P.length = V := by rw [← r3]; simp
    have e := tapE_errP (T := T) (P := P ++ [p]) (V := V ++ [(enterV T P V p).1]) (q := P.length) (p := p) (v := (enterV T P V p).1) (rising_of r4) (checked_of r4) r2 (fun x hx => errP_all_chk r5 x (by rw [t1] at hx; exact hx)) (by simp) (by rw [← r3]; simp)
    rw [← e, t1, t2]
    have hv : wi (enterV T P V p).1 1 2 = true := by
      rw [wi_iff]
      rcases enter_verd h with e | e <;> omega
    unfold tapE
    rw [h2, hv, h3, h6]
    simp [firstE]

/-- how many rides of a ticket there may be -/
def bounded (x : TK) (c : Nat) : Prop := (x.k = 1 → c ≤ 1) ∧ (x.k = 3 → (c : Int) ≤ x.r)

theorem rides_bounded {T : List TK} {P : List TP} {V : List Int} (h : chkL T P V = 0) {x : TK} (hx : x ∈ T) : bounded x (ridesL (P.zip V) x.i).length := by
  obtain ⟨r1, r2, r3, r4, r5⟩ := chkL_right h
  have hr := rising_of r4
  have hc := checked_of r4 x hx
  have key : ∀ n, n ≤ P.length → bounded x (ridesL ((P.zip V).take n) x.i).length := by
    intro n
    induction n with
    | zero =>
      intro _
      refine ⟨fun _ => by simp [ridesL], fun h3 => ?_⟩
      have hf := (chk_right hc).2.2.2.2.2.2
      rw [ridesF, if_pos h3, wi_iff] at hf
      simp [ridesL]
      omega
    | succ n ih =>
      intro hn
      have ih := ih (by omega)
      obtain ⟨p, hp⟩ : ∃ p, P[n]? = some p := ⟨P[n]'(by omega), by simp⟩
      obtain ⟨v, hv⟩ : ∃ v, V[n]? = some v := ⟨V[n]'(by omega), by simp⟩
      have hz : (P.zip V)[n]? = some (p, v) := by rw [List.getElem?_zip_eq_some]; exact ⟨hp, hv⟩
      rw [List.take_add_one, hz, Option.toList_some, ridesL_snoc]
      by_cases hcnd : (p.a == x.i && v == 1) = true
      · rw [if_pos hcnd, List.length_append, List.length_singleton]
        obtain ⟨ha, hv1⟩ : p.a = x.i ∧ v = 1 := by simpa using hcnd
        have hE := tapsE_all r5 n (by omega)
        have gp : P.getD n tp0 = p := by simp [List.getD, hp]
        have gv : V.getD n 0 = v := by simp [List.getD, hv]
        have h6 := firstE_mem _ hE (if (verd T P V n (P.getD n tp0)).1 = V.getD n 0 then 0 else 4) (by simp)
        rw [gp, gv] at h6
        have h7 : (verd T P V n p).1 = 1 := by
          by_cases e : (verd T P V n p).1 = v
          · rw [e, hv1]
          · rw [if_neg e] at h6; cases h6
        have hidx : T.getD (idxT T p.a).toNat tk0 = x := by
          have hh : hasT T p.a = true := by
            rw [hasT, List.any_eq_true]
            exact ⟨x, hx, by simp [ha]⟩
          obtain ⟨y, hy, hyi, hyx⟩ := hasT_pos hr hh
          have : y = x := by
            obtain ⟨q, hq⟩ := List.mem_iff_getElem?.1 hx
            rcases Nat.lt_trichotomy (posT T p.a) q with h' | h' | h'
            · have := hr _ _ _ _ hy hq h'; omega
            · rw [h', hq] at hy; cases hy; rfl
            · have := hr _ _ _ _ hq hy h'; omega
          rw [hyx, show ((posT T p.a : Int)).toNat = posT T p.a from rfl]
          simp [List.getD, hy, this]
        unfold verd at h7
        rw [hidx, many_rides, ha] at h7
        have h8 := judge_one h7
        obtain ⟨b1, b2⟩ := ih
        refine ⟨fun hk => ?_, fun hk => ?_⟩
        · have := b1 hk
          have : ¬ (0 : Int) < ((ridesL ((P.zip V).take n) x.i).length : Int) := fun h => h8 (Or.inl ⟨hk, h⟩)
          omega
        · have : ¬ x.r ≤ ((ridesL ((P.zip V).take n) x.i).length : Int) := fun h => h8 (Or.inr ⟨hk, h⟩)
          simp
          omega
      · rw [if_neg hcnd]
        exact ih
  have := key P.length (Nat.le_refl _)
  rwa [List.take_of_length_le (by rw [List.length_zip]; omega)] at this

theorem hasT_mem {T : List TK} {x : TK} (hx : x ∈ T) : hasT T x.i = true := by
  rw [hasT, List.any_eq_true]
  exact ⟨x, hx, by simp⟩

/-- the rides of a ticket behind a tap that was entered -/
theorem enter_rides {T : List TK} {P : List TP} {V : List Int} {p : TP} (h : (enterV T P V p).2 = 0) {x : TK} (hx : x ∈ T) :
    ∃ c c' : Nat, ridesV T P V x.i = ((c : Int), 0) ∧ ridesV T (P ++ [p]) (V ++ [(enterV T P V p).1]) x.i = ((c' : Int), 0) ∧ c ≤ 60 ∧ (c' : Int) = c + (if x.i = p.a ∧ (enterV T P V p).1 = 1 then 1 else 0) ∧ bounded x c' := by
  obtain ⟨h1, h2, h3, h4, h5, h6⟩ := enter_right h
  obtain ⟨r1, r2, r3, r4, r5⟩ := chkL_right h1
  have hb := rides_bounded (enter_chk h) hx
  have e1 : ridesV T P V x.i = (((ridesL (P.zip V) x.i).length : Int), 0) := by rw [ridesV, if_neg (by simpa using h1), if_pos (hasT_mem hx)]
  have e2 : ridesV T (P ++ [p]) (V ++ [(enterV T P V p).1]) x.i = (((ridesL ((P ++ [p]).zip (V ++ [(enterV T P V p).1])) x.i).length : Int), 0) := by rw [ridesV, if_neg (by simpa using enter_chk h), if_pos (hasT_mem hx)]
  refine ⟨_, _, e1, e2, ?_, ?_, hb⟩
  · have := ridesL_len (P.zip V) x.i
    rw [List.length_zip] at this
    omega
  · rw [zip_snoc r3, ridesL_snoc]
    by_cases hc : x.i = p.a ∧ (enterV T P V p).1 = 1
    · rw [if_pos hc, if_pos (by simp [hc.1, hc.2]), List.length_append, List.length_singleton]
      simp
    · rw [if_neg hc, if_neg (fun e => hc (by simp at e; exact ⟨e.1.symm, e.2⟩))]
      simp
end Go.Proofs.Ytcakfmpckbmdeab
