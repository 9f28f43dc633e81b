/-
  The document's answers on ledgers: 'CheckLedger' (package leeboardref): what it says, and its first loop.
-/
import Derived.Test.YtlnmheooicancaaR5
namespace Go.Proofs.Ytlnmheooicancaa
open Go.RowKit

def tk0 : TK := ⟨0, 0, 0, 0, 0, 0⟩
def tp0 : TP := ⟨0, 0, 0, 0, 0⟩
def chkK (p : TK) : Int := chk p.i p.k p.f p.t p.z p.r

/-- what is wrong at a ticket of a ledger -/
def errK (T : List TK) (i : Nat) : Int := firstE [chkK (T.getD i tk0), if 0 < i ∧ (T.getD i tk0).i ≤ (T.getD (i - 1) tk0).i then 4 else 0]

/-- the verdict on a tap behind those that were ahead of it -/
def verd (T : List TK) (P : List TP) (V : List Int) (i : Nat) (p : TP) : Int × Int :=
  judge (T.getD (idxT T p.a).toNat tk0).k (T.getD (idxT T p.a).toNat tk0).f (T.getD (idxT T p.a).toNat tk0).t (T.getD (idxT T p.a).toNat tk0).z (T.getD (idxT T p.a).toNat tk0).r
    (many ((P.zip V).take i) p.a).2 (many ((P.zip V).take i) p.a).1 p.m p.z

/-- what is wrong at a tap of a ledger -/
def errP (T : List TK) (P : List TP) (V : List Int) (i : Nat) : Int :=
  firstE [chkT (P.getD i tp0), if idxT T (P.getD i tp0).a < 0 then 5 else 0, if twiceT (P.take i) (P.getD i tp0) = true then 6 else 0, if wi (V.getD i 0) 1 2 = true then 0 else 7,
    if 0 < i ∧ (P.getD i tp0).m < (P.getD (i - 1) tp0).m then 4 else 0, if (verd T P V i (P.getD i tp0)).1 = V.getD i 0 then 0 else 4]

/-- what the document's answer says of a ledger -/
def chkL (T : List TK) (P : List TP) (V : List Int) : Int :=
  if 12 < T.length ∨ 60 < P.length ∨ P.length ≠ V.length then 2
  else firstE ((List.range T.length).map (errK T) ++ (List.range P.length).map (errP T P V))

theorem firstE_all (f : Nat → Int) (n : Nat) (k : List Int) (h : ∀ j, j < n → f j = 0) : firstE ((List.range n).map f ++ k) = firstE k := by
  rw [firstE_append]
  have : firstE ((List.range n).map f) = 0 := by
    induction n with
    | zero => rfl
    | succ n ih =>
      rw [List.range_succ, List.map_append, List.map_singleton, firstE_snoc, ih (fun j hj => h j (by omega)), if_pos rfl]
      exact h n (by omega)
  simp [this, firstE]

theorem firstE_at (f : Nat → Int) (n q : Nat) (k : List Int) (h : ∀ j, j < q → f j = 0) (hq : q < n) (hne : f q ≠ 0) : firstE ((List.range n).map f ++ k) = f q := by
  obtain ⟨m, rfl⟩ : ∃ m, n = q + 1 + m := ⟨n - (q + 1), by omega⟩
  rw [List.range_add, List.map_append, List.append_assoc, List.range_succ, List.map_append, List.append_assoc, firstE_all f q _ h]
  simp [firstE, hne]

theorem chkL_many {T : List TK} {P : List TP} {V : List Int} (h : 12 < T.length ∨ 60 < P.length ∨ P.length ≠ V.length) : chkL T P V = 2 := if_pos h
theorem chkL_tick {T : List TK} {P : List TP} {V : List Int} {q : Nat} (h : ¬ (12 < T.length ∨ 60 < P.length ∨ P.length ≠ V.length)) (h1 : ∀ j, j < q → errK T j = 0) (hq : q < T.length) (hne : errK T q ≠ 0) :
    chkL T P V = errK T q := by
  rw [chkL, if_neg h]; exact firstE_at _ _ _ _ h1 hq hne
theorem chkL_tap {T : List TK} {P : List TP} {V : List Int} {q : Nat} (h : ¬ (12 < T.length ∨ 60 < P.length ∨ P.length ≠ V.length)) (h1 : ∀ j, j < T.length → errK T j = 0) (h2 : ∀ j, j < q → errP T P V j = 0) (hq : q < P.length) (hne : errP T P V q ≠ 0) :
    chkL T P V = errP T P V q := by
  rw [chkL, if_neg h, firstE_all _ _ _ h1, ← List.append_nil ((List.range P.length).map _)]; exact firstE_at _ _ _ _ h2 hq hne
theorem chkL_ok {T : List TK} {P : List TP} {V : List Int} (h : ¬ (12 < T.length ∨ 60 < P.length ∨ P.length ≠ V.length)) (h1 : ∀ j, j < T.length → errK T j = 0) (h2 : ∀ j, j < P.length → errP T P V j = 0) : chkL T P V = 0 := by
  rw [chkL, if_neg h, firstE_all _ _ _ h1, ← List.append_nil ((List.range P.length).map _), firstE_all _ _ _ h2]; rfl

theorem errK_cases {T : List TK} {q : Nat} {p : TK} (hp : T[q]? = some p) : (chkK p ≠ 0 ∧ errK T q = chkK p) ∨ (chkK p = 0 ∧ 0 < q ∧ p.i ≤ (T.getD (q - 1) tk0).i ∧ errK T q = 4) ∨ (chkK p = 0 ∧ ¬ (0 < q ∧ p.i ≤ (T.getD (q - 1) tk0).i) ∧ errK T q = 0) := by
  have hg : T.getD q tk0 = p := by simp [List.getD, hp]
  unfold errK
  rw [hg]
  by_cases h : chkK p = 0
  · by_cases h2 : 0 < q ∧ p.i ≤ (T.getD (q - 1) tk0).i
    · exact Or.inr (Or.inl ⟨h, h2.1, h2.2, by simp only [firstE, h, if_true]; rw [if_pos h2]; rfl⟩)
    · exact Or.inr (Or.inr ⟨h, h2, by simp only [firstE, h, if_true]; rw [if_neg h2]; rfl⟩)
  · exact Or.inl ⟨h, by simp [firstE, h]⟩

end Go.Proofs.Ytlnmheooicancaa
