/-
  'enter' of a builder (package merge).
-/
import Derived.Test.YtefdnddaggpgkaaW1
import Derived.Test.YtefdnddaggpgkaaH1
import Derived.Test.YtefdnddaggpgkaaH4
import Derived.Test.YtefdnddaggpgkaaG0
import Derived.BigRegion
namespace Go.Proofs.Ytefdnddaggpgkaa
open Go.RowKit

/-- what becomes of a tap -/
def bldE (T : List TK) (P : List TP) (V : List Int) (p : TP) : Int :=
  if (enterV T P V p).2 = 0 then 0 else if (enterV T P V p).1 = 3 ∨ (enterV T P V p).2 = 5 then 0 else (enterV T P V p).2
def bldP (T : List TK) (P : List TP) (V : List Int) (p : TP) : List TP := if (enterV T P V p).2 = 0 then P ++ [p] else P
def bldV (T : List TK) (P : List TP) (V : List Int) (p : TP) : List Int := if (enterV T P V p).2 = 0 then V ++ [(enterV T P V p).1] else V
def bldD (T : List TK) (P : List TP) (V : List Int) (D : List TP) (p : TP) : List TP :=
  if (enterV T P V p).2 = 0 then D else if (enterV T P V p).1 = 3 ∨ (enterV T P V p).2 = 5 then D ++ [p] else D

/-- a list does not lie in a block -/
def Off {α : Type} (o : Option Addr) (L : List α) (g : Nat) : Prop := ∀ A, o = some A → L ≠ [] → A.block ≠ g

/-- a builder that lies in block B -/
def Bld (w : World) (B base F : Nat) (T : List TK) (P : List TP) (V : List Int) (D : List TP) : Prop :=
  ∃ o1 c1 o2 c2 o3 c3 o4 c4, w.heap[B]? = some (.cells #[.slice o1 T.length c1, .slice o2 P.length c2, .slice o3 V.length c3, .slice o4 D.length c4] 65) ∧ LedV w (lg o1 o2 o3 T.length c1 P.length c2 V.length c3) T P V ∧
    w.ownsRow base 28 5 (.slice o4 D.length c4) D.length (cellsP D) ∧ B < base ∧ base ≤ w.heap.size ∧ (∀ g, (Value.slice o4 D.length c4).ownBlock = some g → Off o1 T g ∧ Off o2 P g ∧ Off o3 V g) ∧ (Fresh F (.slice o1 T.length c1) ∧ Fresh F (.slice o2 P.length c2) ∧ Fresh F (.slice o3 V.length c3)) ∧ F ≤ base

theorem addr_blk (A : Addr) (n : Nat) : (A.add n).block = A.block := by unfold Addr.add; split <;> rfl

theorem LedV.parts3 {w : World} {o1 o2 o3 : Option Addr} {n1 c1 n2 c2 n3 c3 : Nat} {T : List TK} {P : List TP} {V : List Int} (h : LedV w (lg o1 o2 o3 n1 c1 n2 c2 n3 c3) T P V) :
    TiksV w (.slice o1 n1 c1) T ∧ TapsV w (.slice o2 n2 c2) P ∧ IntsV w (.slice o3 n3 c3) V := by
  obtain ⟨v1, v2, v3, e, h1, h2, h3⟩ := h
  simp only [Value.agg.injEq] at e
  injection e with e
  injection e with e1 e
  injection e with e2 e
  injection e with e3 e
  subst e1 e2 e3
  exact ⟨h1, h2, h3⟩

theorem LedV.of {w : World} {o1 o2 o3 : Option Addr} {n1 c1 n2 c2 n3 c3 : Nat} {T : List TK} {P : List TP} {V : List Int} (h1 : TiksV w (.slice o1 n1 c1) T) (h2 : TapsV w (.slice o2 n2 c2) P) (h3 : IntsV w (.slice o3 n3 c3) V) :
    LedV w (lg o1 o2 o3 n1 c1 n2 c2 n3 c3) T P V := ⟨_, _, _, rfl, h1, h2, h3⟩

theorem TapsV.eqs {w : World} {o : Option Addr} {n c : Nat} {L : List TP} (h : TapsV w (.slice o n c) L) : n = L.length ∧ TapsAt w o L ∧ L.length ≤ c ∧ (o = none → c = 0) := by
  obtain ⟨o', c', e, h1, h2, h3⟩ := h
  simp only [Value.slice.injEq] at e
  obtain ⟨rfl, rfl, rfl⟩ := e
  exact ⟨rfl, h1, h2, h3⟩
theorem TiksV.eqs {w : World} {o : Option Addr} {n c : Nat} {L : List TK} (h : TiksV w (.slice o n c) L) : n = L.length ∧ TiksAt w o L ∧ L.length ≤ c ∧ (o = none → c = 0) := by
  obtain ⟨o', c', e, h1, h2, h3⟩ := h
  simp only [Value.slice.injEq] at e
  obtain ⟨rfl, rfl, rfl⟩ := e
  exact ⟨rfl, h1, h2, h3⟩
theorem IntsV.eqs {w : World} {o : Option Addr} {n c : Nat} {L : List Int} (h : IntsV w (.slice o n c) L) : n = L.length ∧ IntsAt w o L ∧ L.length ≤ c ∧ (o = none → c = 0) := by
  obtain ⟨o', c', e, h1, h2, h3⟩ := h
  simp only [Value.slice.injEq] at e
  obtain ⟨rfl, rfl, rfl⟩ := e
  exact ⟨rfl, h1, h2, h3⟩

theorem Off.ne {α : Type} {o : Option Addr} {L : List α} {r : Option Nat} (ho : ∀ g, r = some g → Off o L g) {A : Addr} (h : o = some A) {i : Nat} {p : α} (hi : L[i]? = some p) (n : Nat) : some (A.add n).block ≠ r := by
  intro e
  exact ho _ e.symm A h (by intro h0; rw [h0] at hi; simp at hi) (addr_blk A n).symm

theorem TapsV.grown {w w' : World} {o : Option Addr} {n c : Nat} {L : List TP} {r : Option Nat} (h : TapsV w (.slice o n c) L) (hg : w.grownBy w' r) (ho : ∀ g, r = some g → Off o L g) : TapsV w' (.slice o n c) L := by
  obtain ⟨rfl, h1, h2⟩ := h.eqs
  refine ⟨o, c, rfl, fun i p hi => ?_, h2⟩
  obtain ⟨b, hb, c0, c1, c2, c3, c4⟩ := h1 i p hi
  have ne := Off.ne ho hb hi (i * 5)
  exact ⟨b, hb, hg.cell c0 ne, hg.cell c1 ne, hg.cell c2 ne, hg.cell c3 ne, hg.cell c4 ne⟩
theorem TiksV.grown {w w' : World} {o : Option Addr} {n c : Nat} {L : List TK} {r : Option Nat} (h : TiksV w (.slice o n c) L) (hg : w.grownBy w' r) (ho : ∀ g, r = some g → Off o L g) : TiksV w' (.slice o n c) L := by
  obtain ⟨rfl, h1, h2⟩ := h.eqs
  refine ⟨o, c, rfl, fun i p hi => ?_, h2⟩
  obtain ⟨b, hb, c0, c1, c2, c3, c4, c5⟩ := h1 i p hi
  have ne := Off.ne ho hb hi (i * 6)
  exact ⟨b, hb, hg.cell c0 ne, hg.cell c1 ne, hg.cell c2 ne, hg.cell c3 ne, hg.cell c4 ne, hg.cell c5 ne⟩
theorem IntsV.grown {w w' : World} {o : Option Addr} {n c : Nat} {L : List Int} {r : Option Nat} (h : IntsV w (.slice o n c) L) (hg : w.grownBy w' r) (ho : ∀ g, r = some g → Off o L g) : IntsV w' (.slice o n c) L := by
  obtain ⟨rfl, h1, h2⟩ := h.eqs
  refine ⟨o, c, rfl, fun i p hi => ?_, h2⟩
  obtain ⟨b, hb, c0⟩ := h1 i p hi
  exact ⟨b, hb, hg.cell c0 (Off.ne ho hb hi i)⟩

/-- a cell of an integer stays where a slice is stored into a cell of a slice -/
theorem cell_setS {w : World} {a b : Addr} {n : Int} {o : Option Addr} {k c : Nat} (ha : w.cell? a = some (.int .i64 n)) (hb : w.cell? b = some (.slice o k c)) (u : Value) : (w.setCell b u).cell? a = some (.int .i64 n) := by
  rw [World.cell?_setCell_other]
  · exact ha
  · intro e
    subst e
    rw [ha] at hb
    simp at hb

theorem TapsV.setS {w : World} {v : Value} {L : List TP} (h : TapsV w v L) {b : Addr} {o : Option Addr} {k c : Nat} (hb : w.cell? b = some (.slice o k c)) (u : Value) : TapsV (w.setCell b u) v L := by
  obtain ⟨o', c', e, h1, h2⟩ := h
  refine ⟨o', c', e, fun i p hi => ?_, h2⟩
  obtain ⟨d, hd, c0, c1, c2, c3, c4⟩ := h1 i p hi
  exact ⟨d, hd, cell_setS c0 hb u, cell_setS c1 hb u, cell_setS c2 hb u, cell_setS c3 hb u, cell_setS c4 hb u⟩
theorem TiksV.setS {w : World} {v : Value} {L : List TK} (h : TiksV w v L) {b : Addr} {o : Option Addr} {k c : Nat} (hb : w.cell? b = some (.slice o k c)) (u : Value) : TiksV (w.setCell b u) v L := by
  obtain ⟨o', c', e, h1, h2⟩ := h
  refine ⟨o', c', e, fun i p hi => ?_, h2⟩
  obtain ⟨d, hd, c0, c1, c2, c3, c4, c5⟩ := h1 i p hi
  exact ⟨d, hd, cell_setS c0 hb u, cell_setS c1 hb u, cell_setS c2 hb u, cell_setS c3 hb u, cell_setS c4 hb u, cell_setS c5 hb u⟩
theorem IntsV.setS {w : World} {v : Value} {L : List Int} (h : IntsV w v L) {b : Addr} {o : Option Addr} {k c : Nat} (hb : w.cell? b = some (.slice o k c)) (u : Value) : IntsV (w.setCell b u) v L := by
  obtain ⟨o', c', e, h1, h2⟩ := h
  refine ⟨o', c', e, fun i p hi => ?_, h2⟩
  obtain ⟨d, hd, c0⟩ := h1 i p hi
  exact ⟨d, hd, cell_setS c0 hb u⟩

theorem ownsRow_setB {w : World} {base : Nat} {e : TypeId} {size : Nat} {v : Value} {n : Nat} {xs : List Value} (h : w.ownsRow base e size v n xs) {p : Addr} (hp : p.block < base) (u : Value) : (w.setCell p u).ownsRow base e size v n xs := by
  refine ⟨h.1, ?_⟩
  rcases h.2 with h0 | ⟨g, cap, cur, h1, h2, h3, h4⟩
  · exact .inl h0
  · refine .inr ⟨g, cap, cur, h1, h2, ?_, h4⟩
    rw [heap_setCell_other w _ _ _ (by omega)]
    exact h3

theorem own_sliceB {w : World} {base : Nat} {e : TypeId} {size : Nat} {v : Value} {n : Nat} {xs : List Value} (h : w.ownsRow base e size v n xs) : ∃ o c, v = .slice o n c ∧ n ≤ c ∧ (o = none → c = 0) := by
  rcases h.2 with ⟨rfl, h0⟩ | ⟨g, cap, cur, rfl, -, -, hc, -⟩
  · exact ⟨none, 0, by rw [h0], by omega, fun _ => rfl⟩
  · exact ⟨_, cap, rfl, hc, fun h => by cases h⟩

theorem heap_grownB {w w' : World} {r : Option Nat} {b : Nat} {o : Obj} (hg : w.grownBy w' r) (h : w.heap[b]? = some o) (hne : ¬ some b = r) : w'.heap[b]? = some o := by
  rw [hg.block b (Array.getElem?_eq_some_iff.1 h).1 hne]
  exact h

theorem off_ltT {w : World} {o : Option Addr} {n c : Nat} {L : List TK} (h : TiksV w (.slice o n c) L) : Off o L w.heap.size := by
  intro A hA hne
  obtain ⟨-, h1, -⟩ := h.eqs
  cases L with
  | nil => exact absurd rfl hne
  | cons p L =>
    obtain ⟨b, hb, c0, -⟩ := h1 0 p rfl
    rw [hA] at hb
    cases hb
    have := World.block_lt_of_cell? w _ c0
    rw [addr_blk] at this
    omega
theorem off_ltP {w : World} {o : Option Addr} {n c : Nat} {L : List TP} (h : TapsV w (.slice o n c) L) : Off o L w.heap.size := by
  intro A hA hne
  obtain ⟨-, h1, -⟩ := h.eqs
  cases L with
  | nil => exact absurd rfl hne
  | cons p L =>
    obtain ⟨b, hb, c0, -⟩ := h1 0 p rfl
    rw [hA] at hb
    cases hb
    have := World.block_lt_of_cell? w _ c0
    rw [addr_blk] at this
    omega
theorem off_ltI {w : World} {o : Option Addr} {n c : Nat} {L : List Int} (h : IntsV w (.slice o n c) L) : Off o L w.heap.size := by
  intro A hA hne
  obtain ⟨-, h1, -⟩ := h.eqs
  cases L with
  | nil => exact absurd rfl hne
  | cons p L =>
    obtain ⟨b, hb, c0⟩ := h1 0 p rfl
    rw [hA] at hb
    cases hb
    have := World.block_lt_of_cell? w _ c0
    rw [addr_blk] at this
    omega
theorem off_fresh {α : Type} {o : Option Addr} {n c B g : Nat} {L : List α} (h : Fresh B (.slice o n c)) (hg : g < B) : Off o L g := by
  intro A hA _
  subst hA
  have := h A.block rfl
  omega

theorem five_newB (w : World) (a g s m z : Int) (T : TypeId) : ∀ j u, [Value.int .i64 a, .int .i64 g, .int .i64 s, .int .i64 m, .int .i64 z][j]? = some u → (w.alloc (.cells #[.int .i64 a, .int .i64 g, .int .i64 s, .int .i64 m, .int .i64 z] T)).cell? ((⟨w.heap.size, 0, none⟩ : Addr).add j) = some u := five_new w a g s m z T

/-- as wp_append_row, and where the row lies behind it -/
theorem wp_append_rowB {P : Program} {w : World} {o : Oper} {a : Act} {K : Act → World → Prop} {Q : Exit → Act → World → Prop} (s x : Operand) (t : TypeId)
    (ho : o.op = .call { callee := .builtin .append, args := #[s, x], argTypes := #[t, t] })
    (base : Nat) (e : TypeId) (i : TypeInfo) (z : Value) (size bytes : Nat) (ht : P.underlying t = some (.slice e)) (hi : P.info? e = some i) (hz : i.zero = some z)
    (hsize : i.size = size) (hby : i.bytes = bytes) (hzs : z.cells.size = size) (hsz : 0 < size)
    (v : Value) (n : Nat) (xs : List Value) (hs : a.eval s = v) (hown : w.ownsRow base e size v n xs)
    (ad : Addr) (m c : Nat) (news : List Value) (hx : a.eval x = .slice (some ad) m c) (hl : news.length = m * size) (hnews : ∀ j u, news[j]? = some u → w.cell? (ad.add j) = some u) (h1 : ∀ u ∈ news, u.oneCell' = true)
    (h63 : n + m ≤ maxLen) (hbytes : (n + m) * bytes ≤ 140737488355328) (hbase : base ≤ w.heap.size)
    (h : ∀ v' w', w'.ownsRow base e size v' (n + m) (xs ++ news) → w.grownBy w' v.ownBlock → (v'.ownBlock = v.ownBlock ∨ v'.ownBlock = some w.heap.size) → K (a.put o.dst v') w') : o.wp P a w K Q := by
  obtain ⟨v', w', hr, h2, h3, _, h5⟩ := run_append_own_at (P := P) w base t o.type e i z size bytes ht hi hz hsize hby hzs hsz v n xs hown ad m c news hl hnews h1 h63 hbytes hbase
  unfold Oper.wp execOp
  simp only [ho, resolve, invoke, builtin, Sem.run_bind, Sem.run_pure, Result.andThen_ok, List.map_toArray, List.map_cons, List.map_nil, hs, hx, hr]
  exact h v' w' h2 h3 h5
end Go.Proofs.Ytefdnddaggpgkaa
