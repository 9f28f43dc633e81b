/-
  The walk of LedgerParts.
-/
import Derived.Test.YtcakfmpckbmdeabW2
import Derived.Test.YtcakfmpckbmdeabW6
import Derived.Test.YtcakfmpckbmdeabM4
import Derived.Lib.QuietBelow
namespace Go.Proofs.Ytcakfmpckbmdeab
open Go.RowKit

/-- the two boxes of LedgerParts -/
def BoxesW (w w1 : World) (o1 o2 o3 : Option Addr) (n1 c1 n2 c2 n3 c3 : Nat) (t : TK) : Prop :=
  Led3 w1 w.heap.size o1 o2 o3 n1 c1 n2 c2 n3 c3 ∧ Tik6 w1 ⟨w.heap.size + 1, 0, none⟩ t ∧ w.heap.size + 1 < w1.heap.size ∧ Below w.heap.size w w1

theorem boxesW_of (o1 o2 o3 : Option Addr) (n1 c1 n2 c2 n3 c3 : Nat) (i k f t z r : Int) (w w1 : World) (h : Below ((w.alloc (cL o1 o2 o3 n1 c1 n2 c2 n3 c3 43)).alloc (cK i k f t z r 23)).heap.size ((w.alloc (cL o1 o2 o3 n1 c1 n2 c2 n3 c3 43)).alloc (cK i k f t z r 23)) w1) :
    BoxesW w w1 o1 o2 o3 n1 c1 n2 c2 n3 c3 ⟨i, k, f, t, z, r⟩ := by
  have s1 := h.size
  simp at s1
  refine ⟨Led3.below (w := (w.alloc (cL o1 o2 o3 n1 c1 n2 c2 n3 c3 43)).alloc (cK i k f t z r 23)) ⟨?_, ?_, ?_⟩ h (by simp; omega), Tik6.below (w := (w.alloc (cL o1 o2 o3 n1 c1 n2 c2 n3 c3 43)).alloc (cK i k f t z r 23)) ⟨?_, ?_, ?_, ?_, ?_, ?_⟩ h (by simp), by omega,
    Below.trans (((Below.refl _ _).alloc (Nat.le_refl _) _).alloc (by simp) _) (h.mono (by simp; omega))⟩
  all_goals simp [go_sem]

theorem BoxesW.on {w w1 w2 : World} {o1 o2 o3 : Option Addr} {n1 c1 n2 c2 n3 c3 : Nat} {t : TK} (h : BoxesW w w1 o1 o2 o3 n1 c1 n2 c2 n3 c3 t) (hb : Below w1.heap.size w1 w2) : BoxesW w w2 o1 o2 o3 n1 c1 n2 c2 n3 c3 t :=
  ⟨h.1.below hb h.1.lt, h.2.1.below hb h.2.1.lt, Nat.lt_of_lt_of_le h.2.2.1 hb.size, h.2.2.2.trans (hb.mono h.2.2.2.size)⟩

theorem led_caps {w : World} {o1 o2 o3 : Option Addr} {n1 n2 n3 c1 c2 c3 : Nat} {T : List TK} {P : List TP} {V : List Int} (h : LedV w (lg o1 o2 o3 n1 c1 n2 c2 n3 c3) T P V) : T.length ≤ c1 ∧ P.length ≤ c2 ∧ V.length ≤ c3 := by
  obtain ⟨p1, e1, p2, e2, p3, e3, e, a1, a2, a3, l, -⟩ := h.opened
  simp only [lg, Value.agg.injEq] at e
  injection e with e
  injection e with e4 e
  injection e with e5 e
  injection e with e6 e
  injection e4 with e7 _ e8
  injection e5 with e9 _ e10
  injection e6 with e11 _ e12
  subst e8 e10 e12
  exact l

/-- a beginning of a ledger that lies in memory -/
theorem LedV.take {w : World} {o1 o2 o3 : Option Addr} {c1 c2 c3 : Nat} {T : List TK} {P : List TP} {V : List Int} (h : LedV w (lg o1 o2 o3 T.length c1 P.length c2 V.length c3) T P V) (q : Nat) (h1 : q ≤ P.length) (h2 : q ≤ V.length) :
    LedV w (lg o1 o2 o3 T.length c1 q c2 q c3) T (P.take q) (V.take q) := by
  obtain ⟨p1, e1, p2, e2, p3, e3, e, a1, a2, a3, ⟨l1, l2, l3⟩, n1, n2, n3⟩ := h.opened
  simp only [lg, Value.agg.injEq] at e
  injection e with e
  injection e with e4 e
  injection e with e5 e
  injection e with e6 e
  injection e4 with e7 _ e8
  injection e5 with e9 _ e10
  injection e6 with e11 _ e12
  subst e7 e8 e9 e10 e11 e12
  exact ⟨_, _, _, rfl, ⟨o1, c1, rfl, a1, l1, n1⟩, ⟨o2, c2, by rw [List.length_take, Nat.min_eq_left h1], a2.take q, by rw [List.length_take]; omega, n2⟩, ⟨o3, c3, by rw [List.length_take, Nat.min_eq_left h2], a3.take q, by rw [List.length_take]; omega, n3⟩⟩

theorem cell_set_other {w : World} {a b : Addr} {u x y : Value} (ha : w.cell? a = some x) (hb : w.cell? b = some y) (hne : x ≠ y) : (w.setCell b u).cell? a = some x := by
  rw [World.cell?_setCell_other]
  · exact ha
  · intro e
    subst e
    rw [ha] at hb
    exact hne (Option.some.inj hb)

theorem cell_other1 {w : World} {a b : Addr} {u x : Value} (ha : w.cell? a = some x) (hne : a ≠ b) : (w.setCell b u).cell? a = some x := by
  rw [World.cell?_setCell_other]
  · exact ha
  · first | exact hne | exact hne.symm

theorem LedV.setSlice {w : World} {v : Value} {T : List TK} {P : List TP} {V : List Int} (h : LedV w v T P V) {b : Addr} {o : Option Addr} {n c : Nat} (hb : w.cell? b = some (.slice o n c)) (u : Value) : LedV (w.setCell b u) v T P V := by
  obtain ⟨v1, v2, v3, rfl, ⟨o1, c1, rfl, a1, l1⟩, ⟨o2, c2, rfl, a2, l2⟩, ⟨o3, c3, rfl, a3, l3⟩⟩ := h
  refine ⟨_, _, _, rfl, ⟨o1, c1, rfl, fun i p hi => ?_, l1⟩, ⟨o2, c2, rfl, fun i p hi => ?_, l2⟩, ⟨o3, c3, rfl, fun i p hi => ?_, l3⟩⟩
  · obtain ⟨d, e, z0, z1, z2, z3, z4, z5⟩ := a1 i p hi
    exact ⟨d, e, cell_set_other z0 hb (by simp), cell_set_other z1 hb (by simp), cell_set_other z2 hb (by simp), cell_set_other z3 hb (by simp), cell_set_other z4 hb (by simp), cell_set_other z5 hb (by simp)⟩
  · obtain ⟨d, e, z0, z1, z2, z3, z4⟩ := a2 i p hi
    exact ⟨d, e, cell_set_other z0 hb (by simp), cell_set_other z1 hb (by simp), cell_set_other z2 hb (by simp), cell_set_other z3 hb (by simp), cell_set_other z4 hb (by simp)⟩
  · obtain ⟨d, e, z0⟩ := a3 i p hi
    exact ⟨d, e, cell_set_other z0 hb (by simp)⟩

theorem led_int {w : World} {o1 o2 : Option Addr} {B : Addr} {n1 n2 n3 c1 c2 c3 q : Nat} {v : Int} {T : List TK} {P : List TP} {V : List Int} (h : LedV w (lg o1 o2 (some B) n1 c1 n2 c2 n3 c3) T P V) (hv : V[q]? = some v) : w.cell? (B.add q) = some (.int .i64 v) := by
  obtain ⟨p1, e1, p2, e2, p3, e3, e, a1, a2, a3, -⟩ := h.opened
  simp only [lg, Value.agg.injEq] at e
  injection e with e
  injection e with e4 e
  injection e with e5 e
  injection e with e6 e
  injection e6 with e11 _ e12
  subst e11
  obtain ⟨C, hC, hC'⟩ := a3 q v hv
  cases hC
  exact hC'

theorem same_ledV {w : World} {x y : Value} {T : List TK} {P : List TP} {V : List Int} (hx : LedV w x T P V) (hy : LedV w y T P V) (l1 : T.length ≤ 100) (l2 : P.length ≤ 100) (l3 : V.length ≤ 100) : Calls Try.prog 66 #[x, y] w fun e w' => e = .returned (.bool true) ∧ Below w.heap.size w w' := by
  obtain ⟨o1, c1, o2, c2, o3, c3, rfl, a1, a2, a3, -⟩ := hx.opened
  obtain ⟨q1, d1, q2, d2, q3, d3, rfl, b1, b2, b3, -⟩ := hy.opened
  exact sameLedger_same T P V o1 o2 o3 q1 q2 q3 c1 c2 c3 d1 d2 d3 w a1 a2 a3 b1 b2 b3 l1 l2 l3

theorem enter_prefix {T : List TK} {P : List TP} {V : List Int} {q : Nat} {p : TP} {v : Int} (hC : chkL T P V = 0) (hp : P[q]? = some p) (hv : V[q]? = some v) {W : World} {x : Value} (hW : LedV W x T (P.take q) (V.take q)) :
    Calls Try.prog 19 #[x, tp p.a p.g p.s p.m p.z] W fun e w' => (∃ oe1 ce1 oe2 ce2 oe3 ce3, e = .returned (.tuple #[lg oe1 oe2 oe3 T.length ce1 (q + 1) ce2 (q + 1) ce3, .int .i64 v, .int .i64 0]) ∧ LedV w' (lg oe1 oe2 oe3 T.length ce1 (q + 1) ce2 (q + 1) ce3) T (P.take (q + 1)) (V.take (q + 1))) ∧ Below W.heap.size W w' := by
  have hc := chkL_right hC
  have h1 := (List.getElem?_eq_some_iff.1 hp).1
  have h2 := (List.getElem?_eq_some_iff.1 hv).1
  have e1 : enterV T (P.take q) (V.take q) ⟨p.a, p.g, p.s, p.m, p.z⟩ = (v, 0) := prefix_enter hC hp hv
  have h := enterVv hW (by simp only [LensOk, List.length_take]; omega) p.a p.g p.s p.m p.z
  rw [e1] at h
  simp only [if_true] at h
  have e2 : P.take q ++ [(⟨p.a, p.g, p.s, p.m, p.z⟩ : TP)] = P.take (q + 1) := by rw [List.take_add_one, hp]; rfl
  have e3 : V.take q ++ [v] = V.take (q + 1) := by rw [List.take_add_one, hv]; rfl
  rw [e2, e3] at h
  refine h.mono ?_
  rintro e w' ⟨⟨y, rfl, hy⟩, hb⟩
  obtain ⟨oe1, ce1, oe2, ce2, oe3, ce3, rfl, hy'⟩ := hy.parts
  rw [List.length_take, List.length_take, Nat.min_eq_left (by omega), Nat.min_eq_left (by omega)] at hy' ⊢
  exact ⟨⟨oe1, ce1, oe2, ce2, oe3, ce3, rfl, hy'⟩, hb⟩

end Go.Proofs.Ytcakfmpckbmdeab
