/-
  What AuditSums says, of lists.
-/
import Derived.Test.YtcakfmpckbmdeaeA4
import Derived.Test.YtcakfmpckbmdeaeA7
namespace Go.Proofs.Ytcakfmpckbmdeae
open Go.RowKit

/-- how many are so -/
def cntB (f : TP × Int → Bool) (X : List (TP × Int)) : Int := ((X.filter f).length : Int)

theorem cntB_bound (f : TP × Int → Bool) (X : List (TP × Int)) : 0 ≤ cntB f X ∧ cntB f X ≤ X.length := by
  unfold cntB
  have := List.length_filter_le f X
  omega

theorem cntB_add (f g h : TP × Int → Bool) : ∀ X : List (TP × Int), (∀ x ∈ X, (h x = true ∧ f x = true ∧ g x = false) ∨ (h x = true ∧ f x = false ∧ g x = true) ∨ (h x = false ∧ f x = false ∧ g x = false)) → cntB h X = cntB f X + cntB g X
  | [], _ => rfl
  | x :: X, hx => by
    have ih := cntB_add f g h X (fun y hy => hx y (by simp [hy]))
    unfold cntB at ih ⊢
    rw [List.filter_cons, List.filter_cons, List.filter_cons]
    rcases hx x (by simp) with ⟨h1, h2, h3⟩ | ⟨h1, h2, h3⟩ | ⟨h1, h2, h3⟩ <;> simp [h1, h2, h3] <;> omega

theorem cntB_same (f g : TP × Int → Bool) (X : List (TP × Int)) (h : ∀ x ∈ X, f x = g x) : cntB f X = cntB g X := by
  unfold cntB
  rw [List.filter_congr h]

theorem cntB_none (f : TP × Int → Bool) (X : List (TP × Int)) (h : ∀ x ∈ X, f x = false) : cntB f X = 0 := by
  unfold cntB
  rw [List.filter_eq_nil_iff.2 (fun x hx => by simp [h x hx])]
  rfl

theorem cntB_all (f : TP × Int → Bool) (X : List (TP × Int)) (h : ∀ x ∈ X, f x = true) : cntB f X = X.length := by
  unfold cntB
  rw [List.filter_eq_self.2 h]

/-- all that was at the first gates -/
def sumA (X : List (TP × Int)) (q : Int) : Int := cntB (fun x => decide (x.1.g < q)) X
/-- the rides at the first gates -/
def sumR (X : List (TP × Int)) (q : Int) : Int := cntB (fun x => decide (x.1.g < q) && x.2 == 1) X
/-- the rides of no one of the first tickets -/
def sumT (X : List (TP × Int)) (L : List TK) : Int := cntB (fun x => x.2 == 1 && !(L.any fun t => t.i == x.1.a)) X

/-- what the taps of a right ledger are -/
def Fine (T : List TK) (X : List (TP × Int)) : Prop := ∀ x ∈ X, (0 ≤ x.1.g ∧ x.1.g ≤ 2) ∧ (0 ≤ x.1.m ∧ x.1.m ≤ 9999) ∧ (x.2 = 1 ∨ x.2 = 2) ∧ ∃ t ∈ T, t.i = x.1.a

theorem fine_of {T : List TK} {P : List TP} {V : List Int} (h : chkL T P V = 0) : Fine T (P.zip V) := by
  intro x hx
  obtain ⟨p, v⟩ := x
  have hp := (List.of_mem_zip hx).1
  have hv := (List.of_mem_zip hx).2
  have hr := chkL_right h
  obtain ⟨n, hn⟩ := List.mem_iff_getElem?.1 hx
  rw [List.getElem?_zip_eq_some] at hn
  have hc := chkP_right (a := p.a) (g := p.g) (s := p.s) (m := p.m) (z := p.z) (errP_all_chk hr.2.2.2.2 p hp)
  refine ⟨hc.2.1, hc.2.2.2.1, chkL_verds h v hv, ?_⟩
  have e := prefix_enter h hn.1 hn.2
  have hu := unf_has (enter_right (T := T) (P := P.take n) (V := V.take n) (p := p) (by rw [e])).2.1
  obtain ⟨h1, h2, h3⟩ := tikOf_at (rising_of hr.2.2.2.1) hu.2.1
  exact ⟨_, List.mem_of_getElem? h1, h2⟩

theorem sumA_step {T : List TK} {X : List (TP × Int)} (h : Fine T X) (q : Int) : sumA X (q + 1) = sumA X q + (cnt (fun p => p.g == q) X 1 + cnt (fun p => p.g == q) X 2) := by
  have e2 : cntB (fun x => x.1.g == q) X = cnt (fun p => p.g == q) X 1 + cnt (fun p => p.g == q) X 2 := by
    refine cntB_add (fun x => x.1.g == q && x.2 == 1) (fun x => x.1.g == q && x.2 == 2) _ X (fun x hx => ?_)
    rcases (h x hx).2.2.1 with hv | hv <;> cases (x.1.g == q) <;> simp [hv]
  rw [← e2]
  refine cntB_add _ _ _ X (fun x _ => ?_)
  by_cases h1 : x.1.g < q
  · left
    refine ⟨by simp; omega, by simpa using h1, by simp; omega⟩
  · by_cases h2 : x.1.g = q
    · right; left
      exact ⟨by simp; omega, by simpa using h1, by simpa using h2⟩
    · right; right
      exact ⟨by simp; omega, by simpa using h1, by simpa using h2⟩

theorem sumR_step (X : List (TP × Int)) (q : Int) : sumR X (q + 1) = sumR X q + cnt (fun p => p.g == q) X 1 := by
  refine cntB_add _ (fun x => x.1.g == q && x.2 == 1) _ X (fun x _ => ?_)
  cases hv : (x.2 == 1)
  · simp
  · simp only [Bool.and_true]
    by_cases h1 : x.1.g < q
    · left
      refine ⟨by simp; omega, by simpa using h1, by simp; omega⟩
    · by_cases h2 : x.1.g = q
      · right; left
        exact ⟨by simp; omega, by simpa using h1, by simpa using h2⟩
      · right; right
        exact ⟨by simp; omega, by simpa using h1, by simpa using h2⟩

theorem sumA_none {T : List TK} {X : List (TP × Int)} (h : Fine T X) : sumA X 0 = 0 := cntB_none _ X (fun x hx => by have := (h x hx).1; simp; omega)
theorem sumR_none {T : List TK} {X : List (TP × Int)} (h : Fine T X) : sumR X 0 = 0 := cntB_none _ X (fun x hx => by have := (h x hx).1; simp; omega)
theorem sumA_all {T : List TK} {X : List (TP × Int)} (h : Fine T X) : sumA X 3 = X.length := cntB_all _ X (fun x hx => by have := (h x hx).1; simp; omega)
theorem sumR_all {T : List TK} {X : List (TP × Int)} (h : Fine T X) : sumR X 3 = sumT X [] := cntB_same _ _ X (fun x hx => by
  have := (h x hx).1
  have h3 : decide (x.1.g < 3) = true := by simp; omega
  rw [h3]
  simp)

theorem sumT_none {T : List TK} {X : List (TP × Int)} (h : Fine T X) : sumT X T = 0 := cntB_none _ X (fun x hx => by
  obtain ⟨t, h1, h2⟩ := (h x hx).2.2.2
  have : (T.any fun t => t.i == x.1.a) = true := List.any_eq_true.2 ⟨t, h1, by simpa using h2⟩
  rw [this]
  simp)

theorem sumT_step {T : List TK} (X : List (TP × Int)) (hr : Rising T) {q : Nat} {t : TK} (ht : T[q]? = some t) : sumT X (T.take q) = sumT X (T.take (q + 1)) + ((ridesL X t.i).length : Int) := by
  have e : ((ridesL X t.i).length : Int) = cntB (fun x => x.1.a == t.i && x.2 == 1) X := by
    unfold ridesL cntB
    rw [List.length_map]
  rw [e]
  refine cntB_add _ _ _ X (fun x _ => ?_)
  rw [List.take_add_one, ht, Option.toList_some]
  cases hv : (x.2 == 1)
  · simp
  · by_cases h1 : x.1.a = t.i
    · right; left
      have hno : ((T.take q).any fun u => u.i == x.1.a) = false := by
        rw [List.any_eq_false]
        intro u hu
        obtain ⟨j, hj⟩ := List.mem_iff_getElem?.1 hu
        rw [List.getElem?_take] at hj
        split at hj
        · have := hr j q u t hj ht (by omega)
          simp
          omega
        · cases hj
      refine ⟨by rw [hno]; rfl, ?_, by simpa using h1⟩
      rw [List.any_append, hno]
      simp [h1]
    · have h1' : ¬ t.i = x.1.a := fun e => h1 e.symm
      cases ha : ((T.take q).any fun u => u.i == x.1.a)
      · left
        refine ⟨rfl, ?_, by simpa using h1⟩
        rw [List.any_append, ha]
        simp [h1']
      · right; right
        refine ⟨rfl, ?_, by simpa using h1⟩
        rw [List.any_append, ha]
        rfl

/-- what is left is not less than none -/
theorem left_some {T : List TK} {P : List TP} {V : List Int} (h : chkL T P V = 0) {t : TK} (ht : t ∈ T) :
    ∃ n : Int, ridesV T P V t.i = (((ridesL (P.zip V) t.i).length : Int), 0) ∧ leftV T P V t.i = (n, 0) ∧ 0 ≤ n ∧ ((ridesL (P.zip V) t.i).length : Int) ≤ 60 := by
  have hr := chkL_right h
  have e1 : ridesV T P V t.i = (((ridesL (P.zip V) t.i).length : Int), 0) := by rw [ridesV, if_neg (by simpa using h), if_pos (hasT_mem ht)]
  have hb := rides_bounded h ht
  have hlen := ridesL_len (P.zip V) t.i
  rw [List.length_zip] at hlen
  have hk := tikOf_at (rising_of hr.2.2.2.1) (hasT_mem ht)
  have hsame : tikOf T t.i = t := by
    obtain ⟨j, hj⟩ := List.mem_iff_getElem?.1 ht
    have h1 := hk.1
    rcases Nat.lt_trichotomy (posT T t.i) j with hlt | heq | hgt
    · have := rising_of hr.2.2.2.1 _ _ _ _ h1 hj hlt
      have := hk.2.1
      omega
    · rw [heq, hj] at h1
      exact (Option.some.inj h1).symm
    · have := rising_of hr.2.2.2.1 _ _ _ _ hj h1 hgt
      have := hk.2.1
      omega
  refine ⟨_, e1, leftV_of e1, ?_, by omega⟩
  rw [hsame]
  have hc := checked_of hr.2.2.2.1 t ht
  unfold allR
  by_cases k1 : t.k = 1
  · have := hb.1 k1
    rw [if_pos k1]
    omega
  · rw [if_neg k1]
    by_cases k2 : t.k = 2
    · rw [if_pos k2]
      omega
    · rw [if_neg k2]
      have hkk := (chk_right (i := t.i) (k := t.k) (f := t.f) (t := t.t) (z := t.z) (r := t.r) hc).2.2.2.2.1
      have := hb.2 (by omega)
      omega

/-- times side by side -/
theorem between_sum {T : List TK} {P : List TP} {V : List Int} (h : chkL T P V = 0) {mid : Int} (h0 : 0 ≤ mid) (h1 : mid < 9999) :
    ∃ a b : Int, betwV T P V 0 mid = (a, 0) ∧ betwV T P V (mid + 1) 9999 = (b, 0) ∧ 0 ≤ a ∧ a ≤ 60 ∧ 0 ≤ b ∧ b ≤ 60 ∧ a + b = P.length := by
  have hr := chkL_right h
  have e1 : betwV T P V 0 mid = (cntA 0 mid P, 0) := by
    unfold betwV
    rw [if_neg (by simp [h]), cntA_cnt 0 mid P V hr.2.2.1 (chkL_verds h), if_pos (by rw [Bool.and_eq_true]; exact ⟨(wi_iff _ _ _).2 ⟨by omega, by omega⟩, (wi_iff _ _ _).2 ⟨by omega, by omega⟩⟩), if_neg (by omega)]
  have e2 : betwV T P V (mid + 1) 9999 = (cntA (mid + 1) 9999 P, 0) := by
    unfold betwV
    rw [if_neg (by simp [h]), cntA_cnt (mid + 1) 9999 P V hr.2.2.1 (chkL_verds h), if_pos (by rw [Bool.and_eq_true]; exact ⟨(wi_iff _ _ _).2 ⟨by omega, by omega⟩, (wi_iff _ _ _).2 ⟨by omega, by omega⟩⟩), if_neg (by omega)]
  have b1 := cntA_bound 0 mid P
  have b2 := cntA_bound (mid + 1) 9999 P
  refine ⟨_, _, e1, e2, b1.1, by omega, b2.1, by omega, ?_⟩
  have hall : ∀ p ∈ P, 0 ≤ p.m ∧ p.m ≤ 9999 := fun p hp => (chkP_right (a := p.a) (g := p.g) (s := p.s) (m := p.m) (z := p.z) (errP_all_chk hr.2.2.2.2 p hp)).2.2.2.1
  clear e1 e2 b1 b2 hr h
  induction P with
  | nil => rfl
  | cons p P ih =>
    have ih := ih (fun q hq => hall q (by simp [hq]))
    have hp := hall p (by simp)
    unfold cntA at ih ⊢
    rw [List.filter_cons, List.filter_cons]
    by_cases hm : p.m ≤ mid
    · have w1 : wi p.m 0 mid = true := (wi_iff _ _ _).2 ⟨hp.1, hm⟩
      have w2 : wi p.m (mid + 1) 9999 = false := by
        cases e : wi p.m (mid + 1) 9999
        · rfl
        · have := (wi_iff _ _ _).1 e
          omega
      simp [w1, w2]
      omega
    · have w2 : wi p.m (mid + 1) 9999 = true := (wi_iff _ _ _).2 ⟨by omega, hp.2⟩
      have w1 : wi p.m 0 mid = false := by
        cases e : wi p.m 0 mid
        · rfl
        · have := (wi_iff _ _ _).1 e
          omega
      simp [w1, w2]
      omega

end Go.Proofs.Ytcakfmpckbmdeae
