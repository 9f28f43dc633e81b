/-
  'goesOn', 'Judge' (package rule).
-/
import Derived.Test.YtlnmheooicancaaP3
import Derived.Test.YtlnmheooicancaaR4
namespace Go.Proofs.Ytlnmheooicancaa
open Go.RowKit

/-- when the last one was; -1: there is none -/
def lastT (L : List TP) : Int := match L.getLast? with
  | none => -1
  | some p => p.m

def goes (last m : Int) : Bool := decide (0 ≤ last ∧ last ≤ m ∧ m < last + 60)

theorem lastT_at (L : List TP) (p : TP) (n : Nat) (hn : L.length = n + 1) (hp : L[n]? = some p) : lastT L = p.m := by
  rw [lastT, List.getLast?_eq_getElem?, hn, Nat.add_sub_cancel, hp]

theorem firstE_left (l k : List Int) (h : firstE (l ++ k) = 0) : firstE l = 0 := Decidable.by_contra fun hn => hn (by rw [← firstE_stop l k hn]; exact h)

theorem firstE_mem (l : List Int) (h : firstE l = 0) : ∀ x ∈ l, x = 0 := by
  induction l with
  | nil => intro x hx; cases hx
  | cons e l ih =>
    by_cases he : e = 0
    · simp [firstE, he] at h
      intro x hx
      rcases List.mem_cons.mp hx with rfl | hx
      · exact he
      · exact ih h x hx
    · simp [firstE, he] at h

theorem chkP_right {a g s m z : Int} (h : chkP a g s m z = 0) : (1 ≤ a ∧ a ≤ 9999) ∧ (0 ≤ g ∧ g ≤ 2) ∧ (1 ≤ s ∧ s ≤ 99) ∧ (0 ≤ m ∧ m ≤ 9999) ∧ isZ z = true := by
  unfold chkP at h
  split at h
  · simp at h
  · split at h
    · simp at h
    · simp_all [wi]

theorem chk_right {i k f t z r : Int} (h : chk i k f t z r = 0) : (1 ≤ i ∧ i ≤ 9999) ∧ (0 ≤ f ∧ f ≤ 9999) ∧ (0 ≤ t ∧ t ≤ 9999) ∧ (1 ≤ z ∧ z ≤ 15) ∧ (1 ≤ k ∧ k ≤ 3) ∧ f ≤ t ∧ ridesF k r = true := by
  unfold chk at h
  split at h
  · simp at h
  · split at h
    · simp at h
    · split at h
      · simp at h
      · split at h
        · simp at h
        · simp_all [wi, inR]

/-- of what is handed to Judge nothing is wrong -/
theorem errJ_right {i k f t z r rides : Int} {p : TP} {L : List TP} (h : errJ i k f t z r rides p L = 0) :
    chk i k f t z r = 0 ∧ chkT p = 0 ∧ wi rides 0 60 = true ∧ (∀ x ∈ L, chkT x = 0) ∧ p.a = i ∧ (∀ x ∈ L, x.a = i) := by
  have h0 := firstE_mem _ h
  simp only [List.mem_append, List.mem_cons, List.not_mem_nil, or_false, List.mem_map] at h0
  refine ⟨h0 _ (by simp), h0 _ (by simp), ?_, fun x hx => h0 _ (Or.inl (Or.inl (Or.inr ⟨x, hx, rfl⟩))), ?_, fun x hx => ?_⟩
  · have := h0 (if wi rides 0 60 = true then 0 else 3) (by simp)
    cases hw : wi rides 0 60
    · simp [hw] at this
    · rfl
  · have := h0 (misT i p) (by simp)
    by_cases e : p.a = i
    · exact e
    · simp [misT, e] at this
  · have := h0 (misT i x) (Or.inr ⟨x, hx, rfl⟩)
    by_cases e : x.a = i
    · exact e
    · simp [misT, e] at this

/-- what Judge says: a verdict, and an error -/
def judgeV (i k f t z r rides : Int) (p : TP) (L : List TP) : Int × Int :=
  if errJ i k f t z r rides p L ≠ 0 then (0, errJ i k f t z r rides p L) else judge k f t z r (lastT L) rides p.m p.z

abbrev cK (i k f t z r : Int) (T : TypeId) : Obj := .cells #[.int .i64 i, .int .i64 k, .int .i64 f, .int .i64 t, .int .i64 z, .int .i64 r] T
abbrev cP (a g s m z : Int) (T : TypeId) : Obj := .cells #[.int .i64 a, .int .i64 g, .int .i64 s, .int .i64 m, .int .i64 z] T

/-- the three boxes of Judge -/
def Boxes (w w1 : World) (x : TK) (p : TP) : Prop := Tik6 w1 ⟨w.heap.size + 1 + 1, 0, none⟩ x ∧ Tap5 w1 ⟨w.heap.size + 1, 0, none⟩ p ∧ w.heap.size + 1 + 1 < w1.heap.size ∧ Below w.heap.size w w1

theorem boxes_of (i k f t z r a g s m zone : Int) (T1 T2 T3 : TypeId) (w w1 : World) (h : Below (((w.alloc (cK i k f t z r T1)).alloc (cP a g s m zone T2)).alloc (cK i k f t z r T3)).heap.size (((w.alloc (cK i k f t z r T1)).alloc (cP a g s m zone T2)).alloc (cK i k f t z r T3)) w1) :
    Boxes w w1 ⟨i, k, f, t, z, r⟩ ⟨a, g, s, m, zone⟩ := by
  have s1 := h.size
  simp at s1
  refine ⟨Tik6.below (w := ((w.alloc (cK i k f t z r T1)).alloc (cP a g s m zone T2)).alloc (cK i k f t z r T3)) ⟨?_, ?_, ?_, ?_, ?_, ?_⟩ h (by simp), Tap5.below (w := ((w.alloc (cK i k f t z r T1)).alloc (cP a g s m zone T2)).alloc (cK i k f t z r T3)) ⟨?_, ?_, ?_, ?_, ?_⟩ h (by simp), by omega,
    Below.trans ((((Below.refl _ _).alloc (Nat.le_refl _) _).alloc (by simp) _).alloc (by simp; omega) _) (h.mono (by simp; omega))⟩
  all_goals simp [go_sem]

theorem Boxes.on {w w1 w2 : World} {x : TK} {p : TP} (h : Boxes w w1 x p) (hb : Below w1.heap.size w1 w2) : Boxes w w2 x p :=
  ⟨h.1.below hb h.1.lt, h.2.1.below hb h.2.1.lt, Nat.lt_of_lt_of_le h.2.2.1 hb.size, h.2.2.2.trans (hb.mono h.2.2.2.size)⟩

end Go.Proofs.Ytlnmheooicancaa
