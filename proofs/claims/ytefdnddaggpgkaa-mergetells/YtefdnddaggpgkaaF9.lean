/-
  'enter' of a builder (package merge): the walk.
-/
import Derived.Test.YtefdnddaggpgkaaW1
import Derived.Test.YtefdnddaggpgkaaH1
import Derived.Test.YtefdnddaggpgkaaH4
import Derived.Test.YtefdnddaggpgkaaG0
import Derived.BigRegion
namespace Go.Proofs.Ytefdnddaggpgkaa
open Go.RowKit

/-- what becomes of a tap -/
def bldE (T : List TK) (P : List TP) (V : List Int) (p : TP) : Int :=
  if (enterV T P V p).2 = 0 then 0 else if (enterV T P V p).1 = 3 ∨ (enterV T P V p).2 = 5 then 0 else (enterV T P V p).2
def bldP (T : List TK) (P : List TP) (V : List Int) (p : TP) : List TP := if (enterV T P V p).2 = 0 then P ++ [p] else P
def bldV (T : List TK) (P : List TP) (V : List Int) (p : TP) : List Int := if (enterV T P V p).2 = 0 then V ++ [(enterV T P V p).1] else V
def bldD (T : List TK) (P : List TP) (V : List Int) (D : List TP) (p : TP) : List TP :=
  if (enterV T P V p).2 = 0 then D else if (enterV T P V p).1 = 3 ∨ (enterV T P V p).2 = 5 then D ++ [p] else D

/-- a list does not lie in a block -/
def Off {α : Type} (o : Option Addr) (L : List α) (g : Nat) : Prop := ∀ A, o = some A → L ≠ [] → A.block ≠ g

/-- a builder that lies in block B -/
def Bld (w : World) (B base F : Nat) (T : List TK) (P : List TP) (V : List Int) (D : List TP) : Prop :=
  ∃ o1 c1 o2 c2 o3 c3 o4 c4, w.heap[B]? = some (.cells #[.slice o1 T.length c1, .slice o2 P.length c2, .slice o3 V.length c3, .slice o4 D.length c4] 65) ∧ LedV w (lg o1 o2 o3 T.length c1 P.length c2 V.length c3) T P V ∧
    w.ownsRow base 28 5 (.slice o4 D.length c4) D.length (cellsP D) ∧ B < base ∧ base ≤ w.heap.size ∧ (∀ g, (Value.slice o4 D.length c4).ownBlock = some g → Off o1 T g ∧ Off o2 P g ∧ Off o3 V g) ∧ (Fresh F (.slice o1 T.length c1) ∧ Fresh F (.slice o2 P.length c2) ∧ Fresh F (.slice o3 V.length c3)) ∧ F ≤ base

theorem addr_blk (A : Addr) (n : Nat) : (A.add n).block = A.block := by unfold Addr.add; split <;> rfl

theorem LedV.parts3 {w : World} {o1 o2 o3 : Option Addr} {n1 c1 n2 c2 n3 c3 : Nat} {T : List TK} {P : List TP} {V : List Int} (h : LedV w (lg o1 o2 o3 n1 c1 n2 c2 n3 c3) T P V) :
    TiksV w (.slice o1 n1 c1) T ∧ TapsV w (.slice o2 n2 c2) P ∧ IntsV w (.slice o3 n3 c3) V := by
  obtain ⟨v1, v2, v3, e, h1, h2, h3⟩ := h
  simp only [Value.agg.injEq] at e
  injection e with e
  injection e with e1 e
  injection e with e2 e
  injection e with e3 e
  subst e1 e2 e3
  exact ⟨h1, h2, h3⟩

theorem LedV.of {w : World} {o1 o2 o3 : Option Addr} {n1 c1 n2 c2 n3 c3 : Nat} {T : List TK} {P : List TP} {V : List Int} (h1 : TiksV w (.slice o1 n1 c1) T) (h2 : TapsV w (.slice o2 n2 c2) P) (h3 : IntsV w (.slice o3 n3 c3) V) :
    LedV w (lg o1 o2 o3 n1 c1 n2 c2 n3 c3) T P V := ⟨_, _, _, rfl, h1, h2, h3⟩

theorem TapsV.eqs {w : World} {o : Option Addr} {n c : Nat} {L : List TP} (h : TapsV w (.slice o n c) L) : n = L.length ∧ TapsAt w o L ∧ L.length ≤ c ∧ (o = none → c = 0) := by
  obtain ⟨o', c', e, h1, h2, h3⟩ := h
  simp only [Value.slice.injEq] at e
  obtain ⟨rfl, rfl, rfl⟩ := e
  exact ⟨rfl, h1, h2, h3⟩
theorem TiksV.eqs {w : World} {o : Option Addr} {n c : Nat} {L : List TK} (h : TiksV w (.slice o n c) L) : n = L.length ∧ TiksAt w o L ∧ L.length ≤ c ∧ (o = none → c = 0) := by
  obtain ⟨o', c', e, h1, h2, h3⟩ := h
  simp only [Value.slice.injEq] at e
  obtain ⟨rfl, rfl, rfl⟩ := e
  exact ⟨rfl, h1, h2, h3⟩
theorem IntsV.eqs {w : World} {o : Option Addr} {n c : Nat} {L : List Int} (h : IntsV w (.slice o n c) L) : n = L.length ∧ IntsAt w o L ∧ L.length ≤ c ∧ (o = none → c = 0) := by
  obtain ⟨o', c', e, h1, h2, h3⟩ := h
  simp only [Value.slice.injEq] at e
  obtain ⟨rfl, rfl, rfl⟩ := e
  exact ⟨rfl, h1, h2, h3⟩

theorem Off.ne {α : Type} {o : Option Addr} {L : List α} {r : Option Nat} (ho : ∀ g, r = some g → Off o L g) {A : Addr} (h : o = some A) {i : Nat} {p : α} (hi : L[i]? = some p) (n : Nat) : some (A.add n).block ≠ r := by
  intro e
  exact ho _ e.symm A h (by intro h0; rw [h0] at hi; simp at hi) (addr_blk A n).symm

theorem TapsV.grown {w w' : World} {o : Option Addr} {n c : Nat} {L : List TP} {r : Option Nat} (h : TapsV w (.slice o n c) L) (hg : w.grownBy w' r) (ho : ∀ g, r = some g → Off o L g) : TapsV w' (.slice o n c) L := by
  obtain ⟨rfl, h1, h2⟩ := h.eqs
  refine ⟨o, c, rfl, fun i p hi => ?_, h2⟩
  obtain ⟨b, hb, c0, c1, c2, c3, c4⟩ := h1 i p hi
  have ne := Off.ne ho hb hi (i * 5)
  exact ⟨b, hb, hg.cell c0 ne, hg.cell c1 ne, hg.cell c2 ne, hg.cell c3 ne, hg.cell c4 ne⟩
theorem TiksV.grown {w w' : World} {o : Option Addr} {n c : Nat} {L : List TK} {r : Option Nat} (h : TiksV w (.slice o n c) L) (hg : w.grownBy w' r) (ho : ∀ g, r = some g → Off o L g) : TiksV w' (.slice o n c) L := by
  obtain ⟨rfl, h1, h2⟩ := h.eqs
  refine ⟨o, c, rfl, fun i p hi => ?_, h2⟩
  obtain ⟨b, hb, c0, c1, c2, c3, c4, c5⟩ := h1 i p hi
  have ne := Off.ne ho hb hi (i * 6)
  exact ⟨b, hb, hg.cell c0 ne, hg.cell c1 ne, hg.cell c2 ne, hg.cell c3 ne, hg.cell c4 ne, hg.cell c5 ne⟩
theorem IntsV.grown {w w' : World} {o : Option Addr} {n c : Nat} {L : List Int} {r : Option Nat} (h : IntsV w (.slice o n c) L) (hg : w.grownBy w' r) (ho : ∀ g, r = some g → Off o L g) : IntsV w' (.slice o n c) L := by
  obtain ⟨rfl, h1, h2⟩ := h.eqs
  refine ⟨o, c, rfl, fun i p hi => ?_, h2⟩
  obtain ⟨b, hb, c0⟩ := h1 i p hi
  exact ⟨b, hb, hg.cell c0 (Off.ne ho hb hi i)⟩

/-- a cell of an integer stays where a slice is stored into a cell of a slice -/
theorem cell_setS {w : World} {a b : Addr} {n : Int} {o : Option Addr} {k c : Nat} (ha : w.cell? a = some (.int .i64 n)) (hb : w.cell? b = some (.slice o k c)) (u : Value) : (w.setCell b u).cell? a = some (.int .i64 n) := by
  rw [World.cell?_setCell_other]
  · exact ha
  · intro e
    subst e
    rw [ha] at hb
    simp at hb

theorem TapsV.setS {w : World} {v : Value} {L : List TP} (h : TapsV w v L) {b : Addr} {o : Option Addr} {k c : Nat} (hb : w.cell? b = some (.slice o k c)) (u : Value) : TapsV (w.setCell b u) v L := by
  obtain ⟨o', c', e, h1, h2⟩ := h
  refine ⟨o', c', e, fun i p hi => ?_, h2⟩
  obtain ⟨d, hd, c0, c1, c2, c3, c4⟩ := h1 i p hi
  exact ⟨d, hd, cell_setS c0 hb u, cell_setS c1 hb u, cell_setS c2 hb u, cell_setS c3 hb u, cell_setS c4 hb u⟩
theorem TiksV.setS {w : World} {v : Value} {L : List TK} (h : TiksV w v L) {b : Addr} {o : Option Addr} {k c : Nat} (hb : w.cell? b = some (.slice o k c)) (u : Value) : TiksV (w.setCell b u) v L := by
  obtain ⟨o', c', e, h1, h2⟩ := h
  refine ⟨o', c', e, fun i p hi => ?_, h2⟩
  obtain ⟨d, hd, c0, c1, c2, c3, c4, c5⟩ := h1 i p hi
  exact ⟨d, hd, cell_setS c0 hb u, cell_setS c1 hb u, cell_setS c2 hb u, cell_setS c3 hb u, cell_setS c4 hb u, cell_setS c5 hb u⟩
theorem IntsV.setS {w : World} {v : Value} {L : List Int} (h : IntsV w v L) {b : Addr} {o : Option Addr} {k c : Nat} (hb : w.cell? b = some (.slice o k c)) (u : Value) : IntsV (w.setCell b u) v L := by
  obtain ⟨o', c', e, h1, h2⟩ := h
  refine ⟨o', c', e, fun i p hi => ?_, h2⟩
  obtain ⟨d, hd, c0⟩ := h1 i p hi
  exact ⟨d, hd, cell_setS c0 hb u⟩

theorem ownsRow_setB {w : World} {base : Nat} {e : TypeId} {size : Nat} {v : Value} {n : Nat} {xs : List Value} (h : w.ownsRow base e size v n xs) {p : Addr} (hp : p.block < base) (u : Value) : (w.setCell p u).ownsRow base e size v n xs := by
  refine ⟨h.1, ?_⟩
  rcases h.2 with h0 | ⟨g, cap, cur, h1, h2, h3, h4⟩
  · exact .inl h0
  · refine .inr ⟨g, cap, cur, h1, h2, ?_, h4⟩
    rw [heap_setCell_other w _ _ _ (by omega)]
    exact h3

theorem own_sliceB {w : World} {base : Nat} {e : TypeId} {size : Nat} {v : Value} {n : Nat} {xs : List Value} (h : w.ownsRow base e size v n xs) : ∃ o c, v = .slice o n c ∧ n ≤ c ∧ (o = none → c = 0) := by
  rcases h.2 with ⟨rfl, h0⟩ | ⟨g, cap, cur, rfl, -, -, hc, -⟩
  · exact ⟨none, 0, by rw [h0], by omega, fun _ => rfl⟩
  · exact ⟨_, cap, rfl, hc, fun h => by cases h⟩

theorem heap_grownB {w w' : World} {r : Option Nat} {b : Nat} {o : Obj} (hg : w.grownBy w' r) (h : w.heap[b]? = some o) (hne : ¬ some b = r) : w'.heap[b]? = some o := by
  rw [hg.block b (Array.getElem?_eq_some_iff.1 h).1 hne]
  exact h

theorem off_ltT {w : World} {o : Option Addr} {n c : Nat} {L : List TK} (h : TiksV w (.slice o n c) L) : Off o L w.heap.size := by
  intro A hA hne
  obtain ⟨-, h1, -⟩ := h.eqs
  cases L with
  | nil => exact absurd rfl hne
  | cons p L =>
    obtain ⟨b, hb, c0, -⟩ := h1 0 p rfl
    rw [hA] at hb
    cases hb
    have := World.block_lt_of_cell? w _ c0
    rw [addr_blk] at this
    omega
theorem off_ltP {w : World} {o : Option Addr} {n c : Nat} {L : List TP} (h : TapsV w (.slice o n c) L) : Off o L w.heap.size := by
  intro A hA hne
  obtain ⟨-, h1, -⟩ := h.eqs
  cases L with
  | nil => exact absurd rfl hne
  | cons p L =>
    obtain ⟨b, hb, c0, -⟩ := h1 0 p rfl
    rw [hA] at hb
    cases hb
    have := World.block_lt_of_cell? w _ c0
    rw [addr_blk] at this
    omega
theorem off_ltI {w : World} {o : Option Addr} {n c : Nat} {L : List Int} (h : IntsV w (.slice o n c) L) : Off o L w.heap.size := by
  intro A hA hne
  obtain ⟨-, h1, -⟩ := h.eqs
  cases L with
  | nil => exact absurd rfl hne
  | cons p L =>
    obtain ⟨b, hb, c0⟩ := h1 0 p rfl
    rw [hA] at hb
    cases hb
    have := World.block_lt_of_cell? w _ c0
    rw [addr_blk] at this
    omega
theorem off_fresh {α : Type} {o : Option Addr} {n c B g : Nat} {L : List α} (h : Fresh B (.slice o n c)) (hg : g < B) : Off o L g := by
  intro A hA _
  subst hA
  have := h A.block rfl
  omega

theorem five_newB (w : World) (a g s m z : Int) (T : TypeId) : ∀ j u, [Value.int .i64 a, .int .i64 g, .int .i64 s, .int .i64 m, .int .i64 z][j]? = some u → (w.alloc (.cells #[.int .i64 a, .int .i64 g, .int .i64 s, .int .i64 m, .int .i64 z] T)).cell? ((⟨w.heap.size, 0, none⟩ : Addr).add j) = some u := five_new w a g s m z T

/-- as wp_append_row, and where the row lies behind it -/
theorem wp_append_rowB {P : Program} {w : World} {o : Oper} {a : Act} {K : Act → World → Prop} {Q : Exit → Act → World → Prop} (s x : Operand) (t : TypeId)
    (ho : o.op = .call { callee := .builtin .append, args := #[s, x], argTypes := #[t, t] })
    (base : Nat) (e : TypeId) (i : TypeInfo) (z : Value) (size bytes : Nat) (ht : P.underlying t = some (.slice e)) (hi : P.info? e = some i) (hz : i.zero = some z)
    (hsize : i.size = size) (hby : i.bytes = bytes) (hzs : z.cells.size = size) (hsz : 0 < size)
    (v : Value) (n : Nat) (xs : List Value) (hs : a.eval s = v) (hown : w.ownsRow base e size v n xs)
    (ad : Addr) (m c : Nat) (news : List Value) (hx : a.eval x = .slice (some ad) m c) (hl : news.length = m * size) (hnews : ∀ j u, news[j]? = some u → w.cell? (ad.add j) = some u) (h1 : ∀ u ∈ news, u.oneCell' = true)
    (h63 : n + m ≤ maxLen) (hbytes : (n + m) * bytes ≤ 140737488355328) (hbase : base ≤ w.heap.size)
    (h : ∀ v' w', w'.ownsRow base e size v' (n + m) (xs ++ news) → w.grownBy w' v.ownBlock → (v'.ownBlock = v.ownBlock ∨ v'.ownBlock = some w.heap.size) → K (a.put o.dst v') w') : o.wp P a w K Q := by
  obtain ⟨v', w', hr, h2, h3, _, h5⟩ := run_append_own_at (P := P) w base t o.type e i z size bytes ht hi hz hsize hby hzs hsz v n xs hown ad m c news hl hnews h1 h63 hbytes hbase
  unfold Oper.wp execOp
  simp only [ho, resolve, invoke, builtin, Sem.run_bind, Sem.run_pure, Result.andThen_ok, List.map_toArray, List.map_cons, List.map_nil, hs, hx, hr]
  exact h v' w' h2 h3 h5

theorem at_below {w w' : World} {b : Nat} {o : Obj} (h : w.heap[b]? = some o) (hb : Below w.heap.size w w') : w'.heap[b]? = some o := by
  rw [hb.block _ (Array.getElem?_eq_some_iff.1 h).1]
  exact h

theorem LedN.open6 {B : Nat} {w : World} {v : Value} {T : List TK} {P : List TP} {V : List Int} (h : LedN B w v T P V) : ∃ q1 e1 q2 e2 q3 e3, v = lg q1 q2 q3 T.length e1 P.length e2 V.length e3 ∧ TiksV w (.slice q1 T.length e1) T ∧ TapsV w (.slice q2 P.length e2) P ∧ IntsV w (.slice q3 V.length e3) V ∧
    Fresh B (.slice q1 T.length e1) ∧ Fresh B (.slice q2 P.length e2) ∧ Fresh B (.slice q3 V.length e3) := by
  obtain ⟨v1, v2, v3, rfl, ⟨h1, f1⟩, ⟨h2, f2⟩, ⟨h3, f3⟩⟩ := h
  obtain ⟨q1, e1, rfl, a1⟩ := h1
  obtain ⟨q2, e2, rfl, a2⟩ := h2
  obtain ⟨q3, e3, rfl, a3⟩ := h3
  exact ⟨q1, e1, q2, e2, q3, e3, rfl, ⟨q1, e1, rfl, a1⟩, ⟨q2, e2, rfl, a2⟩, ⟨q3, e3, rfl, a3⟩, f1, f2, f3⟩

theorem ownsRow_belowB {w w' : World} {base : Nat} {e : TypeId} {size : Nat} {v : Value} {n : Nat} {xs : List Value} (h : w.ownsRow base e size v n xs) (hb : Below w.heap.size w w') : w'.ownsRow base e size v n xs := ownsRow_below h hb

theorem Fresh.monoB {B C : Nat} {v : Value} (h : Fresh B v) (hc : C ≤ B) : Fresh C v := fun k hk => Nat.le_trans hc (h k hk)

theorem enterN {w : World} {v : Value} {T : List TK} {P : List TP} {V : List Int} (h : LedV w v T P V) (hl : LensOk T P V) (a g s m z : Int) : Calls Try.prog 12 #[v, tp a g s m z] w fun e w' =>
      (∃ v, e = .returned (.tuple #[v, .int .i64 (enterV T P V ⟨a, g, s, m, z⟩).1, .int .i64 (enterV T P V ⟨a, g, s, m, z⟩).2]) ∧ LedN w.heap.size w' v (if (enterV T P V ⟨a, g, s, m, z⟩).2 = 0 then T else []) (if (enterV T P V ⟨a, g, s, m, z⟩).2 = 0 then P ++ [(⟨a, g, s, m, z⟩ : TP)] else [])
        (if (enterV T P V ⟨a, g, s, m, z⟩).2 = 0 then V ++ [(enterV T P V ⟨a, g, s, m, z⟩).1] else [])) ∧ Below w.heap.size w w' := by
  obtain ⟨o1, c1, o2, c2, o3, c3, rfl, a1, a2, a3, ⟨-, l2, l3⟩, -, n2, n3⟩ := h.opened
  exact enterF_any T P V a g s m z o1 o2 o3 c1 c2 c3 w a1 a2 a3 hl.1 hl.2.1 hl.2.2 l2 l3 n2 n3

set_option maxHeartbeats 6400000 in
set_option maxRecDepth 100000 in
theorem bEnter_any (B base F : Nat) (T : List TK) (P : List TP) (V : List Int) (D : List TP) (a g s m z : Int) (w : World) (hB : Bld w B base F T P V D) (hl : LensOk T P V) (hD : D.length ≤ 100) :
    Calls Try.prog 35 #[.pointer (some ⟨B, 0, none⟩), tp a g s m z] w fun e w' => (e = .returned (.int .i64 (bldE T P V ⟨a, g, s, m, z⟩)) ∧ Bld w' B base F T (bldP T P V ⟨a, g, s, m, z⟩) (bldV T P V ⟨a, g, s, m, z⟩) (bldD T P V D ⟨a, g, s, m, z⟩)) ∧ Below B w w' := by
  obtain ⟨o1, c1, o2, c2, o3, c3, o4, c4, hb0, hled, hrow, hBb, hbase, hoff, hfr, hFb⟩ := hB
  have HFr := hide hfr
  clear hfr
  have hBlt : B < w.heap.size := by omega
  have HE := hide (fun W (h : LedV W (lg o1 o2 o3 T.length c1 P.length c2 V.length c3) T P V) => enterN h hl a g s m z)
  have hway : ((enterV T P V ⟨a, g, s, m, z⟩).2 = 0 ∧ bldE T P V ⟨a, g, s, m, z⟩ = 0 ∧ bldP T P V ⟨a, g, s, m, z⟩ = P ++ [⟨a, g, s, m, z⟩] ∧ bldV T P V ⟨a, g, s, m, z⟩ = V ++ [(enterV T P V ⟨a, g, s, m, z⟩).1] ∧ bldD T P V D ⟨a, g, s, m, z⟩ = D) ∨
      ((enterV T P V ⟨a, g, s, m, z⟩).2 ≠ 0 ∧ ((enterV T P V ⟨a, g, s, m, z⟩).1 = 3 ∨ ((enterV T P V ⟨a, g, s, m, z⟩).1 ≠ 3 ∧ (enterV T P V ⟨a, g, s, m, z⟩).2 = 5)) ∧ bldE T P V ⟨a, g, s, m, z⟩ = 0 ∧ bldP T P V ⟨a, g, s, m, z⟩ = P ∧ bldV T P V ⟨a, g, s, m, z⟩ = V ∧ bldD T P V D ⟨a, g, s, m, z⟩ = D ++ [⟨a, g, s, m, z⟩]) ∨
      ((enterV T P V ⟨a, g, s, m, z⟩).2 ≠ 0 ∧ (enterV T P V ⟨a, g, s, m, z⟩).1 ≠ 3 ∧ (enterV T P V ⟨a, g, s, m, z⟩).2 ≠ 5 ∧ bldE T P V ⟨a, g, s, m, z⟩ = (enterV T P V ⟨a, g, s, m, z⟩).2 ∧ bldP T P V ⟨a, g, s, m, z⟩ = P ∧ bldV T P V ⟨a, g, s, m, z⟩ = V ∧ bldD T P V D ⟨a, g, s, m, z⟩ = D) := by
    simp only [bldE, bldP, bldV, bldD]
    by_cases h1 : (enterV T P V ⟨a, g, s, m, z⟩).2 = 0
    · left; simp [h1]
    · right
      by_cases h2 : (enterV T P V ⟨a, g, s, m, z⟩).1 = 3
      · left; simp [h1, h2]
      · by_cases h3 : (enterV T P V ⟨a, g, s, m, z⟩).2 = 5
        · left; simp [h2, h3]
        · right; simp [h1, h2, h3]
  generalize bldE T P V ⟨a, g, s, m, z⟩ = RE at *
  generalize bldP T P V ⟨a, g, s, m, z⟩ = RP at *
  generalize bldV T P V ⟨a, g, s, m, z⟩ = RV at *
  generalize bldD T P V D ⟨a, g, s, m, z⟩ = RD at *
  generalize (enterV T P V ⟨a, g, s, m, z⟩).1 = v at *
  generalize (enterV T P V ⟨a, g, s, m, z⟩).2 = E at *
  have HW := hide hway
  have H0 := hide hb0
  have HL := hide hled
  have HR := hide hrow
  have HO := hide hoff
  clear hway hb0 hled hrow hoff
  have HA := hide ((Below.refl w.heap.size w).alloc (Nat.le_refl _) (.cells #[.int .i64 a, .int .i64 g, .int .i64 s, .int .i64 m, .int .i64 z] 28))
  have HP0 := hide (heap_alloc_new w (.cells #[.int .i64 a, .int .i64 g, .int .i64 s, .int .i64 m, .int .i64 z] 28))
  have HB0 := hide (at_below H0.out HA.out)
  have HL0 := hide (HL.out.below HA.out)
  have hs0 : (w.alloc (.cells #[.int .i64 a, .int .i64 g, .int .i64 s, .int .i64 m, .int .i64 z] 28)).heap.size = w.heap.size + 1 := by simp
  go_enter Try.func35, Try.ntmps35
  go_wp2_with fail
  generalize w.alloc (.cells #[.int .i64 a, .int .i64 g, .int .i64 s, .int .i64 m, .int .i64 z] 28) = wa at *
  refine wp_region_reads (fun w' => w'.heap[B]? = some (.cells #[.slice o1 T.length c1, .slice o2 P.length c2, .slice o3 V.length c3, .slice o4 D.length c4] 65) ∧ w'.heap[w.heap.size]? = some (.cells #[.int .i64 a, .int .i64 g, .int .i64 s, .int .i64 m, .int .i64 z] 28)) [0, 1, 2, 3, 4] 9 (by rfl) (by kernel_rfl) (by kernel_rfl) (by kernel_rfl) (fun c d v a w h => by cases d <;> exact h) ?_ ?_
  · exact ⟨at_below HB0.out (Below.refl _ _).drew, at_below HP0.out (Below.refl _ _).drew⟩
  refine wpPureH_step (.pointer (some ⟨B, 0, none⟩)) rfl rfl (fun w' _ => ?_) ?_
  · go_simp
  refine wpPureH_step (.pointer (some ⟨B, 0, none⟩)) rfl rfl (fun w' _ => ?_) ?_
  · go_simp
  refine wpPureH_step (.pointer (some ⟨B, 0, none⟩)) rfl rfl (fun w' _ => ?_) ?_
  · go_simp
  refine wpPureH_step (lg o1 o2 o3 T.length c1 P.length c2 V.length c3) rfl rfl (fun w' hS => ?_) ?_
  · have k0 := cell_of_row _ _ 0 _ _ _ hS.1
    have k1 := cell_of_row _ _ 1 _ _ _ hS.1
    have k2 := cell_of_row _ _ 2 _ _ _ hS.1
    simp at k0 k1 k2
    go_simp
  refine wpPureH_step (tp a g s m z) rfl rfl (fun w' hS => ?_) ?_
  · have k0 := cell_of_row _ _ 0 _ _ _ hS.2
    have k1 := cell_of_row _ _ 1 _ _ _ hS.2
    have k2 := cell_of_row _ _ 2 _ _ _ hS.2
    have k3 := cell_of_row _ _ 3 _ _ _ hS.2
    have k4 := cell_of_row _ _ 4 _ _ _ hS.2
    simp at k0 k1 k2 k3 k4
    go_simp
  refine wpPureH_nil ?_
  have HPd := hide (at_below HP0.out (Below.refl _ _).drew)
  have HBd := hide (at_below HB0.out (Below.refl _ _).drew)
  have HLd := hide (HL0.out.below (Below.refl _ _).drew)
  have HAd := hide (HA.out.drew)
  have hsd : wa.drew.heap.size = w.heap.size + 1 := by rw [← hs0]; rfl
  clear HP0 HB0 HL0 HA hs0
  generalize World.drew _ = wb at *
  have hgl : ∀ k, (Value.slice o4 D.length c4).ownBlock = some k → base ≤ k ∧ k < w.heap.size := fun k hk => HR.out.lt k hk
  have HGL := hide hgl
  clear hgl
  obtain ⟨X1, hX1⟩ : ∃ X1, X1 = if E = 0 then T else [] := ⟨_, rfl⟩
  obtain ⟨X2, hX2⟩ : ∃ X2, X2 = if E = 0 then P ++ [(⟨a, g, s, m, z⟩ : TP)] else [] := ⟨_, rfl⟩
  obtain ⟨X3, hX3⟩ : ∃ X3, X3 = if E = 0 then V ++ [v] else [] := ⟨_, rfl⟩
  rw [← hX1, ← hX2, ← hX3] at HE
  have HX := hide (And.intro hX1 (And.intro hX2 hX3))
  clear hX1 hX2 hX3
  have HLw := hide HLd.out.parts3
  refine two_readyH (i := 5) (j := 10) (by kernel_rfl) rfl rfl rfl rfl (fun K hK => ?_) (fun K hK => ?_)
  · go_simp
    refine (HE.out _ HLd.out).mono ?_
    rintro e w1 ⟨⟨lv, rfl, hN⟩, hb⟩
    obtain ⟨q1, e1, q2, e2, q3, e3, rfl, hN6⟩ := hN.open6
    have HSX := hide (And.intro (at_below HBd.out hb) (at_below HPd.out hb))
    have HN1 := hide hN6
    have HLw1 := hide (And.intro (HLw.out.1.below hb) (And.intro (HLw.out.2.1.below hb) (HLw.out.2.2.below hb)))
    have HB1 := hide (HAd.out.trans (hb.mono (by omega)))
    have hs1 := hb.size
    clear hN hN6 hb
    refine hK _ _ HSX.out ?_
    clear hK K
    refine takesH (fuel := 4) (by kernel_rfl) (fun c d v a w h => by cases d <;> exact h) HSX.out [6, 7, 8, 9] _ _ (by kernel_rfl) ?_
    refine wpPureH_step (.tuple #[lg q1 q2 q3 X1.length e1 X2.length e2 X3.length e3, .int .i64 v, .int .i64 E]) rfl rfl (fun w' _ => ?_) ?_
    · go_simp
    refine wpPureH_step (lg q1 q2 q3 X1.length e1 X2.length e2 X3.length e3) rfl rfl (fun w' _ => ?_) ?_
    · go_simp
    refine wpPureH_step (.int .i64 v) rfl rfl (fun w' _ => ?_) ?_
    · go_simp
    refine wpPureH_step (.int .i64 E) rfl rfl (fun w' _ => ?_) ?_
    · go_simp
    refine wpPureH_nil ?_
    refine one_readyH (i := 10) (by kernel_rfl) rfl rfl (fun K hK => ?_)
    go_simp
    refine hK _ _ ⟨at_below HSX.out.1 ((Below.refl _ _).alloc (Nat.le_refl _) _), at_below HSX.out.2 ((Below.refl _ _).alloc (Nat.le_refl _) _)⟩ ?_
    clear hK K
    refine one_readyH (i := 11) (by kernel_rfl) rfl rfl (fun K hK => ?_)
    go_simp
    have hba := (Below.refl w1.heap.size w1).alloc (Nat.le_refl _) (.cells #[.slice q1 X1.length e1, .slice q2 X2.length e2, .slice q3 X3.length e3] 26)
    have HSZ := hide (And.intro (at_below HSX.out.1 hba) (at_below HSX.out.2 hba))
    have H5 := hide (heap_alloc_new w1 (.cells #[.slice q1 X1.length e1, .slice q2 X2.length e2, .slice q3 X3.length e3] 26))
    have HNZ := hide (And.intro (HN1.out.1.below hba) (And.intro (HN1.out.2.1.below hba) (HN1.out.2.2.1.below hba)))
    have HFZ := hide HN1.out.2.2.2
    have HLZ := hide (And.intro (HLw1.out.1.below hba) (And.intro (HLw1.out.2.1.below hba) (HLw1.out.2.2.below hba)))
    have HBZ := hide (HB1.out.trans (hba.mono (by omega)))
    have HRZ := hide (ownsRow_belowB HR.out (HB1.out.trans (hba.mono (by omega))))
    clear hba
    refine hK _ _ HSZ.out ?_
    clear hK K HSX HN1 HLw1 HB1 HBd HPd HLd HAd HE HLw
    generalize w1.alloc (.cells #[.slice q1 X1.length e1, .slice q2 X2.length e2, .slice q3 X3.length e3] 26) = wz at *
    refine one_readyH (i := 12) (by kernel_rfl) rfl rfl (fun K hK => ?_)
    go_simp
    refine hK _ _ HSZ.out ?_
    clear hK K
    refine one_readyH (i := 13) (by kernel_rfl) rfl rfl (fun K hK => ?_)
    go_simp
    refine hK _ _ HSZ.out ?_
    clear hK K
    refine wpAnyH_done (by kernel_rfl) ?_ _
    have hB5 : B ≠ (w1.heap.size) := by omega
    obtain ⟨i0, hi, hz0, hz1, hz2⟩ := info_parts info32
    rcases HW.out with ⟨h1, h2, h3, h4, h5⟩ | ⟨h1, hr, h2, h3, h4, h5⟩ | ⟨h1, hv, h5e, h2, h3, h4, h5⟩
    · subst h1 h2 h3 h4
      obtain rfl := h5.symm
      obtain ⟨hx1, hx2, hx3⟩ := HX.out
      simp only [if_true] at hx1 hx2 hx3
      obtain rfl := hx1.symm
      subst hx2 hx3
      have k51 := cell_of_row _ _ 1 _ _ _ H5.out
      have k52 := cell_of_row _ _ 2 _ _ _ H5.out
      have kB1 := cell_of_row _ _ 1 _ _ _ HSZ.out.1
      have kB2 := cell_of_row _ _ 2 _ _ _ HSZ.out.1
      have fB1 := frozen_of_row _ _ 1 _ _ HSZ.out.1
      have fB2 := frozen_of_row _ _ 2 _ _ HSZ.out.1
      simp at k51 k52 kB1 kB2
      go_wp2_with fail
      go_region
      go_wp2_with fail
      have kB2' : (wz.setCell ⟨B, 1, none⟩ (.slice q2 (P ++ [(⟨a, g, s, m, z⟩ : TP)]).length e2)).cell? ⟨B, 2, none⟩ = some (.slice o3 V.length c3) := by rw [World.cell?_setCell_other _ _ _ _ (by simp)]; exact kB2
      have hW := heap_setCell_same _ B 2 _ _ (.slice q3 (V ++ [v]).length e3) (heap_setCell_same wz B 1 _ _ (.slice q2 (P ++ [(⟨a, g, s, m, z⟩ : TP)]).length e2) HSZ.out.1)
      have hT1 := (HLZ.out.1.setS kB1 (.slice q2 (P ++ [(⟨a, g, s, m, z⟩ : TP)]).length e2)).setS kB2' (.slice q3 (V ++ [v]).length e3)
      have hP1 := (HNZ.out.2.1.setS kB1 (.slice q2 (P ++ [(⟨a, g, s, m, z⟩ : TP)]).length e2)).setS kB2' (.slice q3 (V ++ [v]).length e3)
      have hV1 := (HNZ.out.2.2.setS kB1 (.slice q2 (P ++ [(⟨a, g, s, m, z⟩ : TP)]).length e2)).setS kB2' (.slice q3 (V ++ [v]).length e3)
      have hR1 := ownsRow_setB (ownsRow_setB HRZ.out (p := ⟨B, 1, none⟩) hBb (.slice q2 (P ++ [(⟨a, g, s, m, z⟩ : TP)]).length e2)) (p := ⟨B, 2, none⟩) hBb (.slice q3 (V ++ [v]).length e3)
      have hZ1 := ((HBZ.out.mono (show B ≤ w.heap.size by omega)).setCell (p := ⟨B, 1, none⟩) (Nat.le_refl _) (.slice q2 (P ++ [(⟨a, g, s, m, z⟩ : TP)]).length e2)).setCell (p := ⟨B, 2, none⟩) (Nat.le_refl _) (.slice q3 (V ++ [v]).length e3)
      have hs1 : base ≤ ((wz.setCell ⟨B, 1, none⟩ (.slice q2 (P ++ [(⟨a, g, s, m, z⟩ : TP)]).length e2)).setCell ⟨B, 2, none⟩ (.slice q3 (V ++ [v]).length e3)).heap.size := by rw [World.size_setCell, World.size_setCell]; exact Nat.le_trans hbase HBZ.out.size
      have hof : ∀ k, (Value.slice o4 D.length c4).ownBlock = some k → Off o1 T k ∧ Off q2 (P ++ [(⟨a, g, s, m, z⟩ : TP)]) k ∧ Off q3 (V ++ [v]) k := fun k hk => ⟨(HO.out k hk).1, off_fresh HFZ.out.2.1 (by have := (HGL.out k hk).2; omega), off_fresh HFZ.out.2.2 (by have := (HGL.out k hk).2; omega)⟩
      rw [show (P ++ [(⟨a, g, s, m, z⟩ : TP)]).length = P.length + 1 by simp] at hW hT1 hP1 hV1 hR1 hZ1 hs1
      rw [show (V ++ [v]).length = V.length + 1 by simp] at hW hT1 hP1 hV1 hR1 hZ1 hs1
      clear kB2' kB1 kB2 fB1 fB2 k51 k52 HSZ HLZ HNZ HRZ HBZ H5
      generalize (wz.setCell ⟨B, 1, none⟩ (.slice q2 (P.length + 1) e2)).setCell ⟨B, 2, none⟩ (.slice q3 (V.length + 1) e3) = wu at *
      have hdr := (Below.refl wu.heap.size wu).drew
      go_ret
      exact ⟨⟨rfl, o1, c1, q2, e2, q3, e3, o4, c4, by simpa using at_below hW hdr, LedV.of (hT1.below hdr) (by simpa using hP1.below hdr) (by simpa using hV1.below hdr), ownsRow_below hR1 hdr, hBb, hs1, hof, ⟨HFr.out.1, HFZ.out.2.1.monoB (by omega), HFZ.out.2.2.monoB (by omega)⟩, hFb⟩, hZ1.drew⟩
    · have h1' : (E == 0) = false := by simpa using h1
      subst h2 h5
      obtain rfl := h3.symm
      obtain rfl := h4.symm
      rcases hr with hr | ⟨hr, hr2⟩
      · have hr' : (v == 3) = true := by simpa using hr
        clear h1 hr
        go_wp2_with fail
        refine wp_region_reads (fun w' => w'.heap[w.heap.size]? = some (.cells #[.int .i64 a, .int .i64 g, .int .i64 s, .int .i64 m, .int .i64 z] 28)) [0, 1, 2, 3, 5] 6 (by rfl) (by kernel_rfl) (by kernel_rfl) (by kernel_rfl) (fun c d v a w h => by cases d <;> exact h) ?_ ?_
        · exact at_below HSZ.out.2 (Below.refl _ _).drew
        refine wpPureH_step (.pointer (some ⟨B, 0, none⟩)) rfl rfl (fun w' _ => ?_) ?_
        · go_simp
        refine wpPureH_step (.pointer (some ⟨B, 0, none⟩)) rfl rfl (fun w' _ => ?_) ?_
        · go_simp
        refine wpPureH_step (.pointer (some ⟨B, 0, none⟩)) rfl rfl (fun w' _ => ?_) ?_
        · go_simp
        refine wpPureH_step (.pointer (some ⟨B, 3, none⟩)) rfl rfl (fun w' _ => ?_) ?_
        · go_simp
        refine wpPureH_step (tp a g s m z) rfl rfl (fun w' hS => ?_) ?_
        · have k0 := cell_of_row _ _ 0 _ _ _ hS
          have k1 := cell_of_row _ _ 1 _ _ _ hS
          have k2 := cell_of_row _ _ 2 _ _ _ hS
          have k3 := cell_of_row _ _ 3 _ _ _ hS
          have k4 := cell_of_row _ _ 4 _ _ _ hS
          simp at k0 k1 k2 k3 k4
          go_simp
        refine wpPureH_nil ?_
        have hdr := (Below.refl wz.heap.size wz).drew
        have HSy := hide (And.intro (at_below HSZ.out.1 hdr) (at_below HSZ.out.2 hdr))
        have HLy := hide (And.intro (HLZ.out.1.below hdr) (And.intro (HLZ.out.2.1.below hdr) (HLZ.out.2.2.below hdr)))
        have HRy := hide (ownsRow_below HRZ.out hdr)
        have HBy := hide HBZ.out.drew
        clear hdr HSZ HLZ HRZ HBZ H5 HNZ HFZ HX
        generalize World.drew _ = wy at *
        have hwy : w.heap.size ≤ wy.heap.size := HBy.out.size
        have hall := (Below.refl wy.heap.size wy).alloc (Nat.le_refl _) (.cells #[.int .i64 a, .int .i64 g, .int .i64 s, .int .i64 m, .int .i64 z] 28)
        have HSx := hide (And.intro (at_below HSy.out.1 hall) (at_below HSy.out.2 hall))
        have HLx := hide (And.intro (HLy.out.1.below hall) (And.intro (HLy.out.2.1.below hall) (HLy.out.2.2.below hall)))
        have HRx := hide (ownsRow_below HRy.out hall)
        have HBx := hide (HBy.out.trans (hall.mono hwy))
        have HNx := hide (five_newB wy a g s m z 28)
        have hsx : (wy.alloc (.cells #[.int .i64 a, .int .i64 g, .int .i64 s, .int .i64 m, .int .i64 z] 28)).heap.size = wy.heap.size + 1 := by simp
        have k3y := cell_of_row _ _ 3 _ _ _ HSy.out.1
        have k3x := cell_of_row _ _ 3 _ _ _ HSx.out.1
        simp at k3y k3x
        clear hall
        refine two_readyH (i := 4) (j := 6) (by kernel_rfl) rfl rfl rfl rfl (fun K hK => ?_) (fun K hK => ?_)
        · go_simp
          refine hK _ _ HSy.out.2 ?_
          clear hK K
          refine one_readyH (i := 6) (by kernel_rfl) rfl rfl (fun K hK => ?_)
          go_simp
          refine hK _ _ HSx.out.2 ?_
          clear hK K k3y k3x HSy HLy HRy HBy
          generalize wy.alloc (.cells #[.int .i64 a, .int .i64 g, .int .i64 s, .int .i64 m, .int .i64 z] 28) = wx at *
          refine one_readyH (i := 7) (by kernel_rfl) rfl rfl (fun K hK => ?_)
          refine wp_append_rowB _ _ 23 rfl base 28 i0 _ 5 40 Try.underlying23 hi hz0 hz1 hz2 rfl (by decide) (.slice o4 D.length c4) D.length (cellsP D) (by go_simp) HRx.out ⟨wy.heap.size, 0, none⟩ 1 1 [.int .i64 a, .int .i64 g, .int .i64 s, .int .i64 m, .int .i64 z] (by go_simp) rfl HNx.out (by intro u hu; simp at hu; rcases hu with rfl | rfl | rfl | rfl | rfl <;> rfl) (by unfold maxLen; omega) (by omega) (by omega) ?_
          intro v' wt hown hgrow hblk
          obtain ⟨o5, c5, rfl, hc5, hn5⟩ := own_sliceB hown
          have HB6 : Hid (wt.heap[B]? = some (.cells #[.slice o1 T.length c1, .slice o2 P.length c2, .slice o3 V.length c3, .slice o4 D.length c4] 65)) := heap_grownB hgrow HSx.out.1 (fun e => by have := (HRx.out.lt B e.symm).1; omega)
          have HP6 : Hid (wt.heap[w.heap.size]? = some (.cells #[.int .i64 a, .int .i64 g, .int .i64 s, .int .i64 m, .int .i64 z] 28)) := heap_grownB hgrow HSx.out.2 (fun e => by have := (HGL.out _ e.symm).2; omega)
          have HL6 := hide (And.intro (HLx.out.1.grown hgrow (fun k hk => (HO.out k hk).1)) (And.intro (HLx.out.2.1.grown hgrow (fun k hk => (HO.out k hk).2.1)) (HLx.out.2.2.grown hgrow (fun k hk => (HO.out k hk).2.2))))
          have HR6 : Hid (wt.ownsRow base 28 5 (.slice o5 (D.length + 1) c5) (D.length + 1) (cellsP (D ++ [(⟨a, g, s, m, z⟩ : TP)]))) := by
            show World.ownsRow _ _ _ _ _ _ _
            rw [cellsP_snoc]
            exact hown
          have HBt := hide ((HBx.out.mono (show B ≤ w.heap.size by omega)).grown hgrow (by omega) (fun k hk => by have := (HGL.out k hk).1; omega))
          have HOt : Hid (∀ k, (Value.slice o5 (D.length + 1) c5).ownBlock = some k → Off o1 T k ∧ Off o2 P k ∧ Off o3 V k) := by
            intro k hk
            rcases hblk with e | e
            · rw [e] at hk; exact HO.out k hk
            · rw [e] at hk
              obtain rfl : wx.heap.size = k := by simpa using hk
              exact ⟨off_ltT HLx.out.1, off_ltP HLx.out.2.1, off_ltI HLx.out.2.2⟩
          have hst : base ≤ wt.heap.size := by have := hgrow.size; omega
          clear hown hgrow hblk HSx HRx HLx HBx HNx
          refine hK _ _ HP6.out ?_
          clear hK K
          have k3 := cell_of_row _ _ 3 _ _ _ HB6.out
          have f3 := frozen_of_row _ _ 3 _ _ HB6.out
          simp at k3
          refine one_readyH (i := 8) (by kernel_rfl) rfl rfl (fun K hK => ?_)
          go_simp
          refine hK _ _ HP6.out ?_
          clear hK K
          refine one_readyH (i := 9) (by kernel_rfl) rfl rfl (fun K hK => ?_)
          go_simp
          refine hK _ _ HP6.out ?_
          clear hK K
          refine one_readyH (i := 10) (by kernel_rfl) rfl rfl (fun K hK => ?_)
          go_simp
          have HB7 := hide (heap_setCell_same wt B 3 _ _ (.slice o5 (D.length + 1) c5) HB6.out)
          have HP7 : Hid ((wt.setCell ⟨B, 3, none⟩ (.slice o5 (D.length + 1) c5)).heap[w.heap.size]? = some (.cells #[.int .i64 a, .int .i64 g, .int .i64 s, .int .i64 m, .int .i64 z] 28)) := by
            show _ = _
            rw [heap_setCell_other _ _ _ _ (by simp; omega)]
            exact HP6.out
          have HL7 := hide (And.intro (HL6.out.1.setS k3 (.slice o5 (D.length + 1) c5)) (And.intro (HL6.out.2.1.setS k3 (.slice o5 (D.length + 1) c5)) (HL6.out.2.2.setS k3 (.slice o5 (D.length + 1) c5))))
          have HR7 := hide (ownsRow_setB HR6.out (p := ⟨B, 3, none⟩) hBb (.slice o5 (D.length + 1) c5))
          have HB8 := hide (HBt.out.setCell (p := ⟨B, 3, none⟩) (Nat.le_refl _) (.slice o5 (D.length + 1) c5))
          have hst' : base ≤ (wt.setCell ⟨B, 3, none⟩ (.slice o5 (D.length + 1) c5)).heap.size := by rw [World.size_setCell]; exact hst
          refine hK _ _ HP7.out ?_
          clear hK K k3 f3 HB6 HP6 HL6 HR6 HBt
          refine wpAnyH_done (by kernel_rfl) ?_ _
          generalize wt.setCell _ _ = wu at *
          go_wp2_with fail
          go_ret
          exact ⟨⟨rfl, o1, c1, o2, c2, o3, c3, o5, c5, by simpa using HB7.out, LedV.of HL7.out.1 HL7.out.2.1 HL7.out.2.2, by simpa using HR7.out, hBb, hst', by simpa using HOt.out, HFr.out, hFb⟩, HB8.out⟩
        · go_simp
          refine hK _ _ HSx.out.2 ?_
          clear hK K
          refine one_readyH (i := 4) (by kernel_rfl) rfl rfl (fun K hK => ?_)
          go_simp
          refine hK _ _ HSx.out.2 ?_
          clear hK K k3y k3x HSy HLy HRy HBy
          generalize wy.alloc (.cells #[.int .i64 a, .int .i64 g, .int .i64 s, .int .i64 m, .int .i64 z] 28) = wx at *
          refine one_readyH (i := 7) (by kernel_rfl) rfl rfl (fun K hK => ?_)
          refine wp_append_rowB _ _ 23 rfl base 28 i0 _ 5 40 Try.underlying23 hi hz0 hz1 hz2 rfl (by decide) (.slice o4 D.length c4) D.length (cellsP D) (by go_simp) HRx.out ⟨wy.heap.size, 0, none⟩ 1 1 [.int .i64 a, .int .i64 g, .int .i64 s, .int .i64 m, .int .i64 z] (by go_simp) rfl HNx.out (by intro u hu; simp at hu; rcases hu with rfl | rfl | rfl | rfl | rfl <;> rfl) (by unfold maxLen; omega) (by omega) (by omega) ?_
          intro v' wt hown hgrow hblk
          obtain ⟨o5, c5, rfl, hc5, hn5⟩ := own_sliceB hown
          have HB6 : Hid (wt.heap[B]? = some (.cells #[.slice o1 T.length c1, .slice o2 P.length c2, .slice o3 V.length c3, .slice o4 D.length c4] 65)) := heap_grownB hgrow HSx.out.1 (fun e => by have := (HRx.out.lt B e.symm).1; omega)
          have HP6 : Hid (wt.heap[w.heap.size]? = some (.cells #[.int .i64 a, .int .i64 g, .int .i64 s, .int .i64 m, .int .i64 z] 28)) := heap_grownB hgrow HSx.out.2 (fun e => by have := (HGL.out _ e.symm).2; omega)
          have HL6 := hide (And.intro (HLx.out.1.grown hgrow (fun k hk => (HO.out k hk).1)) (And.intro (HLx.out.2.1.grown hgrow (fun k hk => (HO.out k hk).2.1)) (HLx.out.2.2.grown hgrow (fun k hk => (HO.out k hk).2.2))))
          have HR6 : Hid (wt.ownsRow base 28 5 (.slice o5 (D.length + 1) c5) (D.length + 1) (cellsP (D ++ [(⟨a, g, s, m, z⟩ : TP)]))) := by
            show World.ownsRow _ _ _ _ _ _ _
            rw [cellsP_snoc]
            exact hown
          have HBt := hide ((HBx.out.mono (show B ≤ w.heap.size by omega)).grown hgrow (by omega) (fun k hk => by have := (HGL.out k hk).1; omega))
          have HOt : Hid (∀ k, (Value.slice o5 (D.length + 1) c5).ownBlock = some k → Off o1 T k ∧ Off o2 P k ∧ Off o3 V k) := by
            intro k hk
            rcases hblk with e | e
            · rw [e] at hk; exact HO.out k hk
            · rw [e] at hk
              obtain rfl : wx.heap.size = k := by simpa using hk
              exact ⟨off_ltT HLx.out.1, off_ltP HLx.out.2.1, off_ltI HLx.out.2.2⟩
          have hst : base ≤ wt.heap.size := by have := hgrow.size; omega
          clear hown hgrow hblk HSx HRx HLx HBx HNx
          refine hK _ _ HP6.out ?_
          clear hK K
          have k3 := cell_of_row _ _ 3 _ _ _ HB6.out
          have f3 := frozen_of_row _ _ 3 _ _ HB6.out
          simp at k3
          refine one_readyH (i := 8) (by kernel_rfl) rfl rfl (fun K hK => ?_)
          go_simp
          refine hK _ _ HP6.out ?_
          clear hK K
          refine one_readyH (i := 9) (by kernel_rfl) rfl rfl (fun K hK => ?_)
          go_simp
          refine hK _ _ HP6.out ?_
          clear hK K
          refine one_readyH (i := 10) (by kernel_rfl) rfl rfl (fun K hK => ?_)
          go_simp
          have HB7 := hide (heap_setCell_same wt B 3 _ _ (.slice o5 (D.length + 1) c5) HB6.out)
          have HP7 : Hid ((wt.setCell ⟨B, 3, none⟩ (.slice o5 (D.length + 1) c5)).heap[w.heap.size]? = some (.cells #[.int .i64 a, .int .i64 g, .int .i64 s, .int .i64 m, .int .i64 z] 28)) := by
            show _ = _
            rw [heap_setCell_other _ _ _ _ (by simp; omega)]
            exact HP6.out
          have HL7 := hide (And.intro (HL6.out.1.setS k3 (.slice o5 (D.length + 1) c5)) (And.intro (HL6.out.2.1.setS k3 (.slice o5 (D.length + 1) c5)) (HL6.out.2.2.setS k3 (.slice o5 (D.length + 1) c5))))
          have HR7 := hide (ownsRow_setB HR6.out (p := ⟨B, 3, none⟩) hBb (.slice o5 (D.length + 1) c5))
          have HB8 := hide (HBt.out.setCell (p := ⟨B, 3, none⟩) (Nat.le_refl _) (.slice o5 (D.length + 1) c5))
          have hst' : base ≤ (wt.setCell ⟨B, 3, none⟩ (.slice o5 (D.length + 1) c5)).heap.size := by rw [World.size_setCell]; exact hst
          refine hK _ _ HP7.out ?_
          clear hK K k3 f3 HB6 HP6 HL6 HR6 HBt
          refine wpAnyH_done (by kernel_rfl) ?_ _
          generalize wt.setCell _ _ = wu at *
          go_wp2_with fail
          go_ret
          exact ⟨⟨rfl, o1, c1, o2, c2, o3, c3, o5, c5, by simpa using HB7.out, LedV.of HL7.out.1 HL7.out.2.1 HL7.out.2.2, by simpa using HR7.out, hBb, hst', by simpa using HOt.out, HFr.out, hFb⟩, HB8.out⟩

      · have hr' : (v == 3) = false := by simpa using hr
        have hr2' : (E == 5) = true := by simpa using hr2
        clear h1 hr hr2
        go_wp2_with fail
        refine wp_region_reads (fun w' => w'.heap[w.heap.size]? = some (.cells #[.int .i64 a, .int .i64 g, .int .i64 s, .int .i64 m, .int .i64 z] 28)) [0, 1, 2, 3, 5] 6 (by rfl) (by kernel_rfl) (by kernel_rfl) (by kernel_rfl) (fun c d v a w h => by cases d <;> exact h) ?_ ?_
        · exact at_below HSZ.out.2 (Below.refl _ _).drew
        refine wpPureH_step (.pointer (some ⟨B, 0, none⟩)) rfl rfl (fun w' _ => ?_) ?_
        · go_simp
        refine wpPureH_step (.pointer (some ⟨B, 0, none⟩)) rfl rfl (fun w' _ => ?_) ?_
        · go_simp
        refine wpPureH_step (.pointer (some ⟨B, 0, none⟩)) rfl rfl (fun w' _ => ?_) ?_
        · go_simp
        refine wpPureH_step (.pointer (some ⟨B, 3, none⟩)) rfl rfl (fun w' _ => ?_) ?_
        · go_simp
        refine wpPureH_step (tp a g s m z) rfl rfl (fun w' hS => ?_) ?_
        · have k0 := cell_of_row _ _ 0 _ _ _ hS
          have k1 := cell_of_row _ _ 1 _ _ _ hS
          have k2 := cell_of_row _ _ 2 _ _ _ hS
          have k3 := cell_of_row _ _ 3 _ _ _ hS
          have k4 := cell_of_row _ _ 4 _ _ _ hS
          simp at k0 k1 k2 k3 k4
          go_simp
        refine wpPureH_nil ?_
        have hdr := (Below.refl wz.heap.size wz).drew
        have HSy := hide (And.intro (at_below HSZ.out.1 hdr) (at_below HSZ.out.2 hdr))
        have HLy := hide (And.intro (HLZ.out.1.below hdr) (And.intro (HLZ.out.2.1.below hdr) (HLZ.out.2.2.below hdr)))
        have HRy := hide (ownsRow_below HRZ.out hdr)
        have HBy := hide HBZ.out.drew
        clear hdr HSZ HLZ HRZ HBZ H5 HNZ HFZ HX
        generalize World.drew _ = wy at *
        have hwy : w.heap.size ≤ wy.heap.size := HBy.out.size
        have hall := (Below.refl wy.heap.size wy).alloc (Nat.le_refl _) (.cells #[.int .i64 a, .int .i64 g, .int .i64 s, .int .i64 m, .int .i64 z] 28)
        have HSx := hide (And.intro (at_below HSy.out.1 hall) (at_below HSy.out.2 hall))
        have HLx := hide (And.intro (HLy.out.1.below hall) (And.intro (HLy.out.2.1.below hall) (HLy.out.2.2.below hall)))
        have HRx := hide (ownsRow_below HRy.out hall)
        have HBx := hide (HBy.out.trans (hall.mono hwy))
        have HNx := hide (five_newB wy a g s m z 28)
        have hsx : (wy.alloc (.cells #[.int .i64 a, .int .i64 g, .int .i64 s, .int .i64 m, .int .i64 z] 28)).heap.size = wy.heap.size + 1 := by simp
        have k3y := cell_of_row _ _ 3 _ _ _ HSy.out.1
        have k3x := cell_of_row _ _ 3 _ _ _ HSx.out.1
        simp at k3y k3x
        clear hall
        refine two_readyH (i := 4) (j := 6) (by kernel_rfl) rfl rfl rfl rfl (fun K hK => ?_) (fun K hK => ?_)
        · go_simp
          refine hK _ _ HSy.out.2 ?_
          clear hK K
          refine one_readyH (i := 6) (by kernel_rfl) rfl rfl (fun K hK => ?_)
          go_simp
          refine hK _ _ HSx.out.2 ?_
          clear hK K k3y k3x HSy HLy HRy HBy
          generalize wy.alloc (.cells #[.int .i64 a, .int .i64 g, .int .i64 s, .int .i64 m, .int .i64 z] 28) = wx at *
          refine one_readyH (i := 7) (by kernel_rfl) rfl rfl (fun K hK => ?_)
          refine wp_append_rowB _ _ 23 rfl base 28 i0 _ 5 40 Try.underlying23 hi hz0 hz1 hz2 rfl (by decide) (.slice o4 D.length c4) D.length (cellsP D) (by go_simp) HRx.out ⟨wy.heap.size, 0, none⟩ 1 1 [.int .i64 a, .int .i64 g, .int .i64 s, .int .i64 m, .int .i64 z] (by go_simp) rfl HNx.out (by intro u hu; simp at hu; rcases hu with rfl | rfl | rfl | rfl | rfl <;> rfl) (by unfold maxLen; omega) (by omega) (by omega) ?_
          intro v' wt hown hgrow hblk
          obtain ⟨o5, c5, rfl, hc5, hn5⟩ := own_sliceB hown
          have HB6 : Hid (wt.heap[B]? = some (.cells #[.slice o1 T.length c1, .slice o2 P.length c2, .slice o3 V.length c3, .slice o4 D.length c4] 65)) := heap_grownB hgrow HSx.out.1 (fun e => by have := (HRx.out.lt B e.symm).1; omega)
          have HP6 : Hid (wt.heap[w.heap.size]? = some (.cells #[.int .i64 a, .int .i64 g, .int .i64 s, .int .i64 m, .int .i64 z] 28)) := heap_grownB hgrow HSx.out.2 (fun e => by have := (HGL.out _ e.symm).2; omega)
          have HL6 := hide (And.intro (HLx.out.1.grown hgrow (fun k hk => (HO.out k hk).1)) (And.intro (HLx.out.2.1.grown hgrow (fun k hk => (HO.out k hk).2.1)) (HLx.out.2.2.grown hgrow (fun k hk => (HO.out k hk).2.2))))
          have HR6 : Hid (wt.ownsRow base 28 5 (.slice o5 (D.length + 1) c5) (D.length + 1) (cellsP (D ++ [(⟨a, g, s, m, z⟩ : TP)]))) := by
            show World.ownsRow _ _ _ _ _ _ _
            rw [cellsP_snoc]
            exact hown
          have HBt := hide ((HBx.out.mono (show B ≤ w.heap.size by omega)).grown hgrow (by omega) (fun k hk => by have := (HGL.out k hk).1; omega))
          have HOt : Hid (∀ k, (Value.slice o5 (D.length + 1) c5).ownBlock = some k → Off o1 T k ∧ Off o2 P k ∧ Off o3 V k) := by
            intro k hk
            rcases hblk with e | e
            · rw [e] at hk; exact HO.out k hk
            · rw [e] at hk
              obtain rfl : wx.heap.size = k := by simpa using hk
              exact ⟨off_ltT HLx.out.1, off_ltP HLx.out.2.1, off_ltI HLx.out.2.2⟩
          have hst : base ≤ wt.heap.size := by have := hgrow.size; omega
          clear hown hgrow hblk HSx HRx HLx HBx HNx
          refine hK _ _ HP6.out ?_
          clear hK K
          have k3 := cell_of_row _ _ 3 _ _ _ HB6.out
          have f3 := frozen_of_row _ _ 3 _ _ HB6.out
          simp at k3
          refine one_readyH (i := 8) (by kernel_rfl) rfl rfl (fun K hK => ?_)
          go_simp
          refine hK _ _ HP6.out ?_
          clear hK K
          refine one_readyH (i := 9) (by kernel_rfl) rfl rfl (fun K hK => ?_)
          go_simp
          refine hK _ _ HP6.out ?_
          clear hK K
          refine one_readyH (i := 10) (by kernel_rfl) rfl rfl (fun K hK => ?_)
          go_simp
          have HB7 := hide (heap_setCell_same wt B 3 _ _ (.slice o5 (D.length + 1) c5) HB6.out)
          have HP7 : Hid ((wt.setCell ⟨B, 3, none⟩ (.slice o5 (D.length + 1) c5)).heap[w.heap.size]? = some (.cells #[.int .i64 a, .int .i64 g, .int .i64 s, .int .i64 m, .int .i64 z] 28)) := by
            show _ = _
            rw [heap_setCell_other _ _ _ _ (by simp; omega)]
            exact HP6.out
          have HL7 := hide (And.intro (HL6.out.1.setS k3 (.slice o5 (D.length + 1) c5)) (And.intro (HL6.out.2.1.setS k3 (.slice o5 (D.length + 1) c5)) (HL6.out.2.2.setS k3 (.slice o5 (D.length + 1) c5))))
          have HR7 := hide (ownsRow_setB HR6.out (p := ⟨B, 3, none⟩) hBb (.slice o5 (D.length + 1) c5))
          have HB8 := hide (HBt.out.setCell (p := ⟨B, 3, none⟩) (Nat.le_refl _) (.slice o5 (D.length + 1) c5))
          have hst' : base ≤ (wt.setCell ⟨B, 3, none⟩ (.slice o5 (D.length + 1) c5)).heap.size := by rw [World.size_setCell]; exact hst
          refine hK _ _ HP7.out ?_
          clear hK K k3 f3 HB6 HP6 HL6 HR6 HBt
          refine wpAnyH_done (by kernel_rfl) ?_ _
          generalize wt.setCell _ _ = wu at *
          go_wp2_with fail
          go_ret
          exact ⟨⟨rfl, o1, c1, o2, c2, o3, c3, o5, c5, by simpa using HB7.out, LedV.of HL7.out.1 HL7.out.2.1 HL7.out.2.2, by simpa using HR7.out, hBb, hst', by simpa using HOt.out, HFr.out, hFb⟩, HB8.out⟩
        · go_simp
          refine hK _ _ HSx.out.2 ?_
          clear hK K
          refine one_readyH (i := 4) (by kernel_rfl) rfl rfl (fun K hK => ?_)
          go_simp
          refine hK _ _ HSx.out.2 ?_
          clear hK K k3y k3x HSy HLy HRy HBy
          generalize wy.alloc (.cells #[.int .i64 a, .int .i64 g, .int .i64 s, .int .i64 m, .int .i64 z] 28) = wx at *
          refine one_readyH (i := 7) (by kernel_rfl) rfl rfl (fun K hK => ?_)
          refine wp_append_rowB _ _ 23 rfl base 28 i0 _ 5 40 Try.underlying23 hi hz0 hz1 hz2 rfl (by decide) (.slice o4 D.length c4) D.length (cellsP D) (by go_simp) HRx.out ⟨wy.heap.size, 0, none⟩ 1 1 [.int .i64 a, .int .i64 g, .int .i64 s, .int .i64 m, .int .i64 z] (by go_simp) rfl HNx.out (by intro u hu; simp at hu; rcases hu with rfl | rfl | rfl | rfl | rfl <;> rfl) (by unfold maxLen; omega) (by omega) (by omega) ?_
          intro v' wt hown hgrow hblk
          obtain ⟨o5, c5, rfl, hc5, hn5⟩ := own_sliceB hown
          have HB6 : Hid (wt.heap[B]? = some (.cells #[.slice o1 T.length c1, .slice o2 P.length c2, .slice o3 V.length c3, .slice o4 D.length c4] 65)) := heap_grownB hgrow HSx.out.1 (fun e => by have := (HRx.out.lt B e.symm).1; omega)
          have HP6 : Hid (wt.heap[w.heap.size]? = some (.cells #[.int .i64 a, .int .i64 g, .int .i64 s, .int .i64 m, .int .i64 z] 28)) := heap_grownB hgrow HSx.out.2 (fun e => by have := (HGL.out _ e.symm).2; omega)
          have HL6 := hide (And.intro (HLx.out.1.grown hgrow (fun k hk => (HO.out k hk).1)) (And.intro (HLx.out.2.1.grown hgrow (fun k hk => (HO.out k hk).2.1)) (HLx.out.2.2.grown hgrow (fun k hk => (HO.out k hk).2.2))))
          have HR6 : Hid (wt.ownsRow base 28 5 (.slice o5 (D.length + 1) c5) (D.length + 1) (cellsP (D ++ [(⟨a, g, s, m, z⟩ : TP)]))) := by
            show World.ownsRow _ _ _ _ _ _ _
            rw [cellsP_snoc]
            exact hown
          have HBt := hide ((HBx.out.mono (show B ≤ w.heap.size by omega)).grown hgrow (by omega) (fun k hk => by have := (HGL.out k hk).1; omega))
          have HOt : Hid (∀ k, (Value.slice o5 (D.length + 1) c5).ownBlock = some k → Off o1 T k ∧ Off o2 P k ∧ Off o3 V k) := by
            intro k hk
            rcases hblk with e | e
            · rw [e] at hk; exact HO.out k hk
            · rw [e] at hk
              obtain rfl : wx.heap.size = k := by simpa using hk
              exact ⟨off_ltT HLx.out.1, off_ltP HLx.out.2.1, off_ltI HLx.out.2.2⟩
          have hst : base ≤ wt.heap.size := by have := hgrow.size; omega
          clear hown hgrow hblk HSx HRx HLx HBx HNx
          refine hK _ _ HP6.out ?_
          clear hK K
          have k3 := cell_of_row _ _ 3 _ _ _ HB6.out
          have f3 := frozen_of_row _ _ 3 _ _ HB6.out
          simp at k3
          refine one_readyH (i := 8) (by kernel_rfl) rfl rfl (fun K hK => ?_)
          go_simp
          refine hK _ _ HP6.out ?_
          clear hK K
          refine one_readyH (i := 9) (by kernel_rfl) rfl rfl (fun K hK => ?_)
          go_simp
          refine hK _ _ HP6.out ?_
          clear hK K
          refine one_readyH (i := 10) (by kernel_rfl) rfl rfl (fun K hK => ?_)
          go_simp
          have HB7 := hide (heap_setCell_same wt B 3 _ _ (.slice o5 (D.length + 1) c5) HB6.out)
          have HP7 : Hid ((wt.setCell ⟨B, 3, none⟩ (.slice o5 (D.length + 1) c5)).heap[w.heap.size]? = some (.cells #[.int .i64 a, .int .i64 g, .int .i64 s, .int .i64 m, .int .i64 z] 28)) := by
            show _ = _
            rw [heap_setCell_other _ _ _ _ (by simp; omega)]
            exact HP6.out
          have HL7 := hide (And.intro (HL6.out.1.setS k3 (.slice o5 (D.length + 1) c5)) (And.intro (HL6.out.2.1.setS k3 (.slice o5 (D.length + 1) c5)) (HL6.out.2.2.setS k3 (.slice o5 (D.length + 1) c5))))
          have HR7 := hide (ownsRow_setB HR6.out (p := ⟨B, 3, none⟩) hBb (.slice o5 (D.length + 1) c5))
          have HB8 := hide (HBt.out.setCell (p := ⟨B, 3, none⟩) (Nat.le_refl _) (.slice o5 (D.length + 1) c5))
          have hst' : base ≤ (wt.setCell ⟨B, 3, none⟩ (.slice o5 (D.length + 1) c5)).heap.size := by rw [World.size_setCell]; exact hst
          refine hK _ _ HP7.out ?_
          clear hK K k3 f3 HB6 HP6 HL6 HR6 HBt
          refine wpAnyH_done (by kernel_rfl) ?_ _
          generalize wt.setCell _ _ = wu at *
          go_wp2_with fail
          go_ret
          exact ⟨⟨rfl, o1, c1, o2, c2, o3, c3, o5, c5, by simpa using HB7.out, LedV.of HL7.out.1 HL7.out.2.1 HL7.out.2.2, by simpa using HR7.out, hBb, hst', by simpa using HOt.out, HFr.out, hFb⟩, HB8.out⟩

    · have h1' : (E == 0) = false := by simpa using h1
      obtain rfl := h2.symm
      obtain rfl := h3.symm
      obtain rfl := h4.symm
      obtain rfl := h5.symm
      have hv' : (v == 3) = false := by simpa using hv
      have h5' : (E == 5) = false := by simpa using h5e
      clear h1 hv h5e
      go_wp2_with fail
      go_ret
      exact ⟨⟨rfl, o1, c1, o2, c2, o3, c3, o4, c4, HSZ.out.1, LedV.of HLZ.out.1 HLZ.out.2.1 HLZ.out.2.2, HRZ.out, hBb, Nat.le_trans hbase HBZ.out.size, HO.out, HFr.out, hFb⟩, HBZ.out.mono (by omega)⟩
  · go_simp
    have hba := (Below.refl wb.heap.size wb).alloc (Nat.le_refl _) (.cells #[.slice none 0 0, .slice none 0 0, .slice none 0 0] 26)
    have hz := heap_alloc_new wb (.cells #[.slice none 0 0, .slice none 0 0, .slice none 0 0] 26)
    rw [hsd] at hz
    have HSX0 := hide (And.intro (at_below HBd.out hba) (at_below HPd.out hba))
    have HLd0 := hide (HLd.out.below hba)
    have HLw0 := hide (And.intro (HLw.out.1.below hba) (And.intro (HLw.out.2.1.below hba) (HLw.out.2.2.below hba)))
    have HA0 := hide (HAd.out.trans (hba.mono (by omega)))
    have hsz0 : (wb.alloc (.cells #[.slice none 0 0, .slice none 0 0, .slice none 0 0] 26)).heap.size = wb.heap.size + 1 := by simp
    clear hba
    refine hK _ _ HSX0.out ?_
    clear hK K
    generalize wb.alloc (.cells #[.slice none 0 0, .slice none 0 0, .slice none 0 0] 26) = wc at *
    refine one_readyH (i := 5) (by kernel_rfl) rfl rfl (fun K hK => ?_)
    go_simp
    refine (HE.out _ HLd0.out).mono ?_
    rintro e w1 ⟨⟨lv, rfl, hN⟩, hb⟩
    obtain ⟨q1, e1, q2, e2, q3, e3, rfl, hN6⟩ := hN.open6
    have HSX := hide (And.intro (at_below HSX0.out.1 hb) (at_below HSX0.out.2 hb))
    have HN1 := hide hN6
    have HZ1 := hide (at_below hz hb)
    have HLw1 := hide (And.intro (HLw0.out.1.below hb) (And.intro (HLw0.out.2.1.below hb) (HLw0.out.2.2.below hb)))
    have HB1 := hide (HA0.out.trans (hb.mono (by omega)))
    have hs1 := hb.size
    clear hN hN6 hb hz HSX0 HLd0 HLw0 HA0
    refine hK _ _ HSX.out ?_
    clear hK K
    refine takesH (fuel := 3) (by kernel_rfl) (fun c d v a w h => by cases d <;> exact h) HSX.out [6, 7, 8, 9] _ _ (by kernel_rfl) ?_
    refine wpPureH_step (.tuple #[lg q1 q2 q3 X1.length e1 X2.length e2 X3.length e3, .int .i64 v, .int .i64 E]) rfl rfl (fun w' _ => ?_) ?_
    · go_simp
    refine wpPureH_step (lg q1 q2 q3 X1.length e1 X2.length e2 X3.length e3) rfl rfl (fun w' _ => ?_) ?_
    · go_simp
    refine wpPureH_step (.int .i64 v) rfl rfl (fun w' _ => ?_) ?_
    · go_simp
    refine wpPureH_step (.int .i64 E) rfl rfl (fun w' _ => ?_) ?_
    · go_simp
    refine wpPureH_nil ?_
    have y0 := cell_of_row _ _ 0 _ _ _ HZ1.out
    have y1 := cell_of_row _ _ 1 _ _ _ HZ1.out
    have y2 := cell_of_row _ _ 2 _ _ _ HZ1.out
    have f0 := frozen_of_row _ _ 0 _ _ HZ1.out
    have f1 := frozen_of_row _ _ 1 _ _ HZ1.out
    have f2 := frozen_of_row _ _ 2 _ _ HZ1.out
    simp at y0 y1 y2
    refine one_readyH (i := 11) (by kernel_rfl) rfl rfl (fun K hK => ?_)
    go_simp
    have j0 : w1.cell? ⟨w.heap.size + 1, 0, none⟩ = some (.slice none 0 0) := y0
    have j1 : (w1.setCell ⟨w.heap.size + 1, 0, none⟩ (.slice q1 X1.length e1)).cell? ⟨w.heap.size + 1, 1, none⟩ = some (.slice none 0 0) := by rw [World.cell?_setCell_other _ _ _ _ (by simp)]; exact y1
    have j2 : ((w1.setCell ⟨w.heap.size + 1, 0, none⟩ (.slice q1 X1.length e1)).setCell ⟨w.heap.size + 1, 1, none⟩ (.slice q2 X2.length e2)).cell? ⟨w.heap.size + 1, 2, none⟩ = some (.slice none 0 0) := by rw [World.cell?_setCell_other _ _ _ _ (by simp), World.cell?_setCell_other _ _ _ _ (by simp)]; exact y2
    have HSZ : Hid (((((w1.setCell ⟨w.heap.size + 1, 0, none⟩ (.slice q1 X1.length e1)).setCell ⟨w.heap.size + 1, 1, none⟩ (.slice q2 X2.length e2)).setCell ⟨w.heap.size + 1, 2, none⟩ (.slice q3 X3.length e3))).heap[B]? = some (.cells #[.slice o1 T.length c1, .slice o2 P.length c2, .slice o3 V.length c3, .slice o4 D.length c4] 65) ∧ ((((w1.setCell ⟨w.heap.size + 1, 0, none⟩ (.slice q1 X1.length e1)).setCell ⟨w.heap.size + 1, 1, none⟩ (.slice q2 X2.length e2)).setCell ⟨w.heap.size + 1, 2, none⟩ (.slice q3 X3.length e3))).heap[w.heap.size]? = some (.cells #[.int .i64 a, .int .i64 g, .int .i64 s, .int .i64 m, .int .i64 z] 28)) := by
      refine ⟨?_, ?_⟩
      · rw [heap_setCell_other _ _ _ _ (by first | (simp; done) | (simp; omega)), heap_setCell_other _ _ _ _ (by first | (simp; done) | (simp; omega)), heap_setCell_other _ _ _ _ (by first | (simp; done) | (simp; omega))]; exact HSX.out.1
      · rw [heap_setCell_other _ _ _ _ (by first | (simp; done) | (simp; omega)), heap_setCell_other _ _ _ _ (by first | (simp; done) | (simp; omega)), heap_setCell_other _ _ _ _ (by first | (simp; done) | (simp; omega))]; exact HSX.out.2
    have H5 : Hid (((((w1.setCell ⟨w.heap.size + 1, 0, none⟩ (.slice q1 X1.length e1)).setCell ⟨w.heap.size + 1, 1, none⟩ (.slice q2 X2.length e2)).setCell ⟨w.heap.size + 1, 2, none⟩ (.slice q3 X3.length e3))).heap[w.heap.size + 1]? = some (.cells #[.slice q1 X1.length e1, .slice q2 X2.length e2, .slice q3 X3.length e3] 26)) := heap_setCell_same _ _ 2 _ _ _ (heap_setCell_same _ _ 1 _ _ _ (heap_setCell_same _ _ 0 _ _ _ HZ1.out))
    have HNZ := hide (And.intro (((HN1.out.1.setS j0 _).setS j1 _).setS j2 (.slice q3 X3.length e3)) (And.intro (((HN1.out.2.1.setS j0 _).setS j1 _).setS j2 (.slice q3 X3.length e3)) (((HN1.out.2.2.1.setS j0 _).setS j1 _).setS j2 (.slice q3 X3.length e3))))
    have HFZ := hide (And.intro (HN1.out.2.2.2.1.monoB (show wb.heap.size ≤ wc.heap.size by omega)) (And.intro (HN1.out.2.2.2.2.1.monoB (show wb.heap.size ≤ wc.heap.size by omega)) (HN1.out.2.2.2.2.2.monoB (show wb.heap.size ≤ wc.heap.size by omega))))
    have HLZ := hide (And.intro (((HLw1.out.1.setS j0 _).setS j1 _).setS j2 (.slice q3 X3.length e3)) (And.intro (((HLw1.out.2.1.setS j0 _).setS j1 _).setS j2 (.slice q3 X3.length e3)) (((HLw1.out.2.2.setS j0 _).setS j1 _).setS j2 (.slice q3 X3.length e3))))
    have HBZ := hide (((HB1.out.setCell (p := ⟨w.heap.size + 1, 0, none⟩) (by first | (simp; done) | (simp; omega)) (.slice q1 X1.length e1)).setCell (p := ⟨w.heap.size + 1, 1, none⟩) (by first | (simp; done) | (simp; omega)) (.slice q2 X2.length e2)).setCell (p := ⟨w.heap.size + 1, 2, none⟩) (by first | (simp; done) | (simp; omega)) (.slice q3 X3.length e3))
    have HRZ := hide (ownsRow_belowB HR.out HBZ.out)
    refine hK _ _ HSZ.out ?_
    clear hK K HSX HN1 HLw1 HB1 HBd HPd HLd HAd HE HLw y0 y1 y2 f0 f1 f2 j0 j1 j2 HZ1
    generalize ((w1.setCell ⟨w.heap.size + 1, 0, none⟩ (.slice q1 X1.length e1)).setCell ⟨w.heap.size + 1, 1, none⟩ (.slice q2 X2.length e2)).setCell ⟨w.heap.size + 1, 2, none⟩ (.slice q3 X3.length e3) = wz at *
    refine one_readyH (i := 12) (by kernel_rfl) rfl rfl (fun K hK => ?_)
    go_simp
    refine hK _ _ HSZ.out ?_
    clear hK K
    refine one_readyH (i := 13) (by kernel_rfl) rfl rfl (fun K hK => ?_)
    go_simp
    refine hK _ _ HSZ.out ?_
    clear hK K
    refine wpAnyH_done (by kernel_rfl) ?_ _
    have hB5 : B ≠ (w.heap.size + 1) := by omega
    obtain ⟨i0, hi, hz0, hz1, hz2⟩ := info_parts info32
    rcases HW.out with ⟨h1, h2, h3, h4, h5⟩ | ⟨h1, hr, h2, h3, h4, h5⟩ | ⟨h1, hv, h5e, h2, h3, h4, h5⟩
    · subst h1 h2 h3 h4
      obtain rfl := h5.symm
      obtain ⟨hx1, hx2, hx3⟩ := HX.out
      simp only [if_true] at hx1 hx2 hx3
      obtain rfl := hx1.symm
      subst hx2 hx3
      have k51 := cell_of_row _ _ 1 _ _ _ H5.out
      have k52 := cell_of_row _ _ 2 _ _ _ H5.out
      have kB1 := cell_of_row _ _ 1 _ _ _ HSZ.out.1
      have kB2 := cell_of_row _ _ 2 _ _ _ HSZ.out.1
      have fB1 := frozen_of_row _ _ 1 _ _ HSZ.out.1
      have fB2 := frozen_of_row _ _ 2 _ _ HSZ.out.1
      simp at k51 k52 kB1 kB2
      go_wp2_with fail
      go_region
      go_wp2_with fail
      have kB2' : (wz.setCell ⟨B, 1, none⟩ (.slice q2 (P ++ [(⟨a, g, s, m, z⟩ : TP)]).length e2)).cell? ⟨B, 2, none⟩ = some (.slice o3 V.length c3) := by rw [World.cell?_setCell_other _ _ _ _ (by simp)]; exact kB2
      have hW := heap_setCell_same _ B 2 _ _ (.slice q3 (V ++ [v]).length e3) (heap_setCell_same wz B 1 _ _ (.slice q2 (P ++ [(⟨a, g, s, m, z⟩ : TP)]).length e2) HSZ.out.1)
      have hT1 := (HLZ.out.1.setS kB1 (.slice q2 (P ++ [(⟨a, g, s, m, z⟩ : TP)]).length e2)).setS kB2' (.slice q3 (V ++ [v]).length e3)
      have hP1 := (HNZ.out.2.1.setS kB1 (.slice q2 (P ++ [(⟨a, g, s, m, z⟩ : TP)]).length e2)).setS kB2' (.slice q3 (V ++ [v]).length e3)
      have hV1 := (HNZ.out.2.2.setS kB1 (.slice q2 (P ++ [(⟨a, g, s, m, z⟩ : TP)]).length e2)).setS kB2' (.slice q3 (V ++ [v]).length e3)
      have hR1 := ownsRow_setB (ownsRow_setB HRZ.out (p := ⟨B, 1, none⟩) hBb (.slice q2 (P ++ [(⟨a, g, s, m, z⟩ : TP)]).length e2)) (p := ⟨B, 2, none⟩) hBb (.slice q3 (V ++ [v]).length e3)
      have hZ1 := ((HBZ.out.mono (show B ≤ w.heap.size by omega)).setCell (p := ⟨B, 1, none⟩) (Nat.le_refl _) (.slice q2 (P ++ [(⟨a, g, s, m, z⟩ : TP)]).length e2)).setCell (p := ⟨B, 2, none⟩) (Nat.le_refl _) (.slice q3 (V ++ [v]).length e3)
      have hs1 : base ≤ ((wz.setCell ⟨B, 1, none⟩ (.slice q2 (P ++ [(⟨a, g, s, m, z⟩ : TP)]).length e2)).setCell ⟨B, 2, none⟩ (.slice q3 (V ++ [v]).length e3)).heap.size := by rw [World.size_setCell, World.size_setCell]; exact Nat.le_trans hbase HBZ.out.size
      have hof : ∀ k, (Value.slice o4 D.length c4).ownBlock = some k → Off o1 T k ∧ Off q2 (P ++ [(⟨a, g, s, m, z⟩ : TP)]) k ∧ Off q3 (V ++ [v]) k := fun k hk => ⟨(HO.out k hk).1, off_fresh HFZ.out.2.1 (by have := (HGL.out k hk).2; omega), off_fresh HFZ.out.2.2 (by have := (HGL.out k hk).2; omega)⟩
      rw [show (P ++ [(⟨a, g, s, m, z⟩ : TP)]).length = P.length + 1 by simp] at hW hT1 hP1 hV1 hR1 hZ1 hs1
      rw [show (V ++ [v]).length = V.length + 1 by simp] at hW hT1 hP1 hV1 hR1 hZ1 hs1
      clear kB2' kB1 kB2 fB1 fB2 k51 k52 HSZ HLZ HNZ HRZ HBZ H5
      generalize (wz.setCell ⟨B, 1, none⟩ (.slice q2 (P.length + 1) e2)).setCell ⟨B, 2, none⟩ (.slice q3 (V.length + 1) e3) = wu at *
      have hdr := (Below.refl wu.heap.size wu).drew
      go_ret
      exact ⟨⟨rfl, o1, c1, q2, e2, q3, e3, o4, c4, by simpa using at_below hW hdr, LedV.of (hT1.below hdr) (by simpa using hP1.below hdr) (by simpa using hV1.below hdr), ownsRow_below hR1 hdr, hBb, hs1, hof, ⟨HFr.out.1, HFZ.out.2.1.monoB (by omega), HFZ.out.2.2.monoB (by omega)⟩, hFb⟩, hZ1.drew⟩
    · have h1' : (E == 0) = false := by simpa using h1
      subst h2 h5
      obtain rfl := h3.symm
      obtain rfl := h4.symm
      rcases hr with hr | ⟨hr, hr2⟩
      · have hr' : (v == 3) = true := by simpa using hr
        clear h1 hr
        go_wp2_with fail
        refine wp_region_reads (fun w' => w'.heap[w.heap.size]? = some (.cells #[.int .i64 a, .int .i64 g, .int .i64 s, .int .i64 m, .int .i64 z] 28)) [0, 1, 2, 3, 5] 6 (by rfl) (by kernel_rfl) (by kernel_rfl) (by kernel_rfl) (fun c d v a w h => by cases d <;> exact h) ?_ ?_
        · exact at_below HSZ.out.2 (Below.refl _ _).drew
        refine wpPureH_step (.pointer (some ⟨B, 0, none⟩)) rfl rfl (fun w' _ => ?_) ?_
        · go_simp
        refine wpPureH_step (.pointer (some ⟨B, 0, none⟩)) rfl rfl (fun w' _ => ?_) ?_
        · go_simp
        refine wpPureH_step (.pointer (some ⟨B, 0, none⟩)) rfl rfl (fun w' _ => ?_) ?_
        · go_simp
        refine wpPureH_step (.pointer (some ⟨B, 3, none⟩)) rfl rfl (fun w' _ => ?_) ?_
        · go_simp
        refine wpPureH_step (tp a g s m z) rfl rfl (fun w' hS => ?_) ?_
        · have k0 := cell_of_row _ _ 0 _ _ _ hS
          have k1 := cell_of_row _ _ 1 _ _ _ hS
          have k2 := cell_of_row _ _ 2 _ _ _ hS
          have k3 := cell_of_row _ _ 3 _ _ _ hS
          have k4 := cell_of_row _ _ 4 _ _ _ hS
          simp at k0 k1 k2 k3 k4
          go_simp
        refine wpPureH_nil ?_
        have hdr := (Below.refl wz.heap.size wz).drew
        have HSy := hide (And.intro (at_below HSZ.out.1 hdr) (at_below HSZ.out.2 hdr))
        have HLy := hide (And.intro (HLZ.out.1.below hdr) (And.intro (HLZ.out.2.1.below hdr) (HLZ.out.2.2.below hdr)))
        have HRy := hide (ownsRow_below HRZ.out hdr)
        have HBy := hide HBZ.out.drew
        clear hdr HSZ HLZ HRZ HBZ H5 HNZ HFZ HX
        generalize World.drew _ = wy at *
        have hwy : w.heap.size ≤ wy.heap.size := HBy.out.size
        have hall := (Below.refl wy.heap.size wy).alloc (Nat.le_refl _) (.cells #[.int .i64 a, .int .i64 g, .int .i64 s, .int .i64 m, .int .i64 z] 28)
        have HSx := hide (And.intro (at_below HSy.out.1 hall) (at_below HSy.out.2 hall))
        have HLx := hide (And.intro (HLy.out.1.below hall) (And.intro (HLy.out.2.1.below hall) (HLy.out.2.2.below hall)))
        have HRx := hide (ownsRow_below HRy.out hall)
        have HBx := hide (HBy.out.trans (hall.mono hwy))
        have HNx := hide (five_newB wy a g s m z 28)
        have hsx : (wy.alloc (.cells #[.int .i64 a, .int .i64 g, .int .i64 s, .int .i64 m, .int .i64 z] 28)).heap.size = wy.heap.size + 1 := by simp
        have k3y := cell_of_row _ _ 3 _ _ _ HSy.out.1
        have k3x := cell_of_row _ _ 3 _ _ _ HSx.out.1
        simp at k3y k3x
        clear hall
        refine two_readyH (i := 4) (j := 6) (by kernel_rfl) rfl rfl rfl rfl (fun K hK => ?_) (fun K hK => ?_)
        · go_simp
          refine hK _ _ HSy.out.2 ?_
          clear hK K
          refine one_readyH (i := 6) (by kernel_rfl) rfl rfl (fun K hK => ?_)
          go_simp
          refine hK _ _ HSx.out.2 ?_
          clear hK K k3y k3x HSy HLy HRy HBy
          generalize wy.alloc (.cells #[.int .i64 a, .int .i64 g, .int .i64 s, .int .i64 m, .int .i64 z] 28) = wx at *
          refine one_readyH (i := 7) (by kernel_rfl) rfl rfl (fun K hK => ?_)
          refine wp_append_rowB _ _ 23 rfl base 28 i0 _ 5 40 Try.underlying23 hi hz0 hz1 hz2 rfl (by decide) (.slice o4 D.length c4) D.length (cellsP D) (by go_simp) HRx.out ⟨wy.heap.size, 0, none⟩ 1 1 [.int .i64 a, .int .i64 g, .int .i64 s, .int .i64 m, .int .i64 z] (by go_simp) rfl HNx.out (by intro u hu; simp at hu; rcases hu with rfl | rfl | rfl | rfl | rfl <;> rfl) (by unfold maxLen; omega) (by omega) (by omega) ?_
          intro v' wt hown hgrow hblk
          obtain ⟨o5, c5, rfl, hc5, hn5⟩ := own_sliceB hown
          have HB6 : Hid (wt.heap[B]? = some (.cells #[.slice o1 T.length c1, .slice o2 P.length c2, .slice o3 V.length c3, .slice o4 D.length c4] 65)) := heap_grownB hgrow HSx.out.1 (fun e => by have := (HRx.out.lt B e.symm).1; omega)
          have HP6 : Hid (wt.heap[w.heap.size]? = some (.cells #[.int .i64 a, .int .i64 g, .int .i64 s, .int .i64 m, .int .i64 z] 28)) := heap_grownB hgrow HSx.out.2 (fun e => by have := (HGL.out _ e.symm).2; omega)
          have HL6 := hide (And.intro (HLx.out.1.grown hgrow (fun k hk => (HO.out k hk).1)) (And.intro (HLx.out.2.1.grown hgrow (fun k hk => (HO.out k hk).2.1)) (HLx.out.2.2.grown hgrow (fun k hk => (HO.out k hk).2.2))))
          have HR6 : Hid (wt.ownsRow base 28 5 (.slice o5 (D.length + 1) c5) (D.length + 1) (cellsP (D ++ [(⟨a, g, s, m, z⟩ : TP)]))) := by
            show World.ownsRow _ _ _ _ _ _ _
            rw [cellsP_snoc]
            exact hown
          have HBt := hide ((HBx.out.mono (show B ≤ w.heap.size by omega)).grown hgrow (by omega) (fun k hk => by have := (HGL.out k hk).1; omega))
          have HOt : Hid (∀ k, (Value.slice o5 (D.length + 1) c5).ownBlock = some k → Off o1 T k ∧ Off o2 P k ∧ Off o3 V k) := by
            intro k hk
            rcases hblk with e | e
            · rw [e] at hk; exact HO.out k hk
            · rw [e] at hk
              obtain rfl : wx.heap.size = k := by simpa using hk
              exact ⟨off_ltT HLx.out.1, off_ltP HLx.out.2.1, off_ltI HLx.out.2.2⟩
          have hst : base ≤ wt.heap.size := by have := hgrow.size; omega
          clear hown hgrow hblk HSx HRx HLx HBx HNx
          refine hK _ _ HP6.out ?_
          clear hK K
          have k3 := cell_of_row _ _ 3 _ _ _ HB6.out
          have f3 := frozen_of_row _ _ 3 _ _ HB6.out
          simp at k3
          refine one_readyH (i := 8) (by kernel_rfl) rfl rfl (fun K hK => ?_)
          go_simp
          refine hK _ _ HP6.out ?_
          clear hK K
          refine one_readyH (i := 9) (by kernel_rfl) rfl rfl (fun K hK => ?_)
          go_simp
          refine hK _ _ HP6.out ?_
          clear hK K
          refine one_readyH (i := 10) (by kernel_rfl) rfl rfl (fun K hK => ?_)
          go_simp
          have HB7 := hide (heap_setCell_same wt B 3 _ _ (.slice o5 (D.length + 1) c5) HB6.out)
          have HP7 : Hid ((wt.setCell ⟨B, 3, none⟩ (.slice o5 (D.length + 1) c5)).heap[w.heap.size]? = some (.cells #[.int .i64 a, .int .i64 g, .int .i64 s, .int .i64 m, .int .i64 z] 28)) := by
            show _ = _
            rw [heap_setCell_other _ _ _ _ (by simp; omega)]
            exact HP6.out
          have HL7 := hide (And.intro (HL6.out.1.setS k3 (.slice o5 (D.length + 1) c5)) (And.intro (HL6.out.2.1.setS k3 (.slice o5 (D.length + 1) c5)) (HL6.out.2.2.setS k3 (.slice o5 (D.length + 1) c5))))
          have HR7 := hide (ownsRow_setB HR6.out (p := ⟨B, 3, none⟩) hBb (.slice o5 (D.length + 1) c5))
          have HB8 := hide (HBt.out.setCell (p := ⟨B, 3, none⟩) (Nat.le_refl _) (.slice o5 (D.length + 1) c5))
          have hst' : base ≤ (wt.setCell ⟨B, 3, none⟩ (.slice o5 (D.length + 1) c5)).heap.size := by rw [World.size_setCell]; exact hst
          refine hK _ _ HP7.out ?_
          clear hK K k3 f3 HB6 HP6 HL6 HR6 HBt
          refine wpAnyH_done (by kernel_rfl) ?_ _
          generalize wt.setCell _ _ = wu at *
          go_wp2_with fail
          go_ret
          exact ⟨⟨rfl, o1, c1, o2, c2, o3, c3, o5, c5, by simpa using HB7.out, LedV.of HL7.out.1 HL7.out.2.1 HL7.out.2.2, by simpa using HR7.out, hBb, hst', by simpa using HOt.out, HFr.out, hFb⟩, HB8.out⟩
        · go_simp
          refine hK _ _ HSx.out.2 ?_
          clear hK K
          refine one_readyH (i := 4) (by kernel_rfl) rfl rfl (fun K hK => ?_)
          go_simp
          refine hK _ _ HSx.out.2 ?_
          clear hK K k3y k3x HSy HLy HRy HBy
          generalize wy.alloc (.cells #[.int .i64 a, .int .i64 g, .int .i64 s, .int .i64 m, .int .i64 z] 28) = wx at *
          refine one_readyH (i := 7) (by kernel_rfl) rfl rfl (fun K hK => ?_)
          refine wp_append_rowB _ _ 23 rfl base 28 i0 _ 5 40 Try.underlying23 hi hz0 hz1 hz2 rfl (by decide) (.slice o4 D.length c4) D.length (cellsP D) (by go_simp) HRx.out ⟨wy.heap.size, 0, none⟩ 1 1 [.int .i64 a, .int .i64 g, .int .i64 s, .int .i64 m, .int .i64 z] (by go_simp) rfl HNx.out (by intro u hu; simp at hu; rcases hu with rfl | rfl | rfl | rfl | rfl <;> rfl) (by unfold maxLen; omega) (by omega) (by omega) ?_
          intro v' wt hown hgrow hblk
          obtain ⟨o5, c5, rfl, hc5, hn5⟩ := own_sliceB hown
          have HB6 : Hid (wt.heap[B]? = some (.cells #[.slice o1 T.length c1, .slice o2 P.length c2, .slice o3 V.length c3, .slice o4 D.length c4] 65)) := heap_grownB hgrow HSx.out.1 (fun e => by have := (HRx.out.lt B e.symm).1; omega)
          have HP6 : Hid (wt.heap[w.heap.size]? = some (.cells #[.int .i64 a, .int .i64 g, .int .i64 s, .int .i64 m, .int .i64 z] 28)) := heap_grownB hgrow HSx.out.2 (fun e => by have := (HGL.out _ e.symm).2; omega)
          have HL6 := hide (And.intro (HLx.out.1.grown hgrow (fun k hk => (HO.out k hk).1)) (And.intro (HLx.out.2.1.grown hgrow (fun k hk => (HO.out k hk).2.1)) (HLx.out.2.2.grown hgrow (fun k hk => (HO.out k hk).2.2))))
          have HR6 : Hid (wt.ownsRow base 28 5 (.slice o5 (D.length + 1) c5) (D.length + 1) (cellsP (D ++ [(⟨a, g, s, m, z⟩ : TP)]))) := by
            show World.ownsRow _ _ _ _ _ _ _
            rw [cellsP_snoc]
            exact hown
          have HBt := hide ((HBx.out.mono (show B ≤ w.heap.size by omega)).grown hgrow (by omega) (fun k hk => by have := (HGL.out k hk).1; omega))
          have HOt : Hid (∀ k, (Value.slice o5 (D.length + 1) c5).ownBlock = some k → Off o1 T k ∧ Off o2 P k ∧ Off o3 V k) := by
            intro k hk
            rcases hblk with e | e
            · rw [e] at hk; exact HO.out k hk
            · rw [e] at hk
              obtain rfl : wx.heap.size = k := by simpa using hk
              exact ⟨off_ltT HLx.out.1, off_ltP HLx.out.2.1, off_ltI HLx.out.2.2⟩
          have hst : base ≤ wt.heap.size := by have := hgrow.size; omega
          clear hown hgrow hblk HSx HRx HLx HBx HNx
          refine hK _ _ HP6.out ?_
          clear hK K
          have k3 := cell_of_row _ _ 3 _ _ _ HB6.out
          have f3 := frozen_of_row _ _ 3 _ _ HB6.out
          simp at k3
          refine one_readyH (i := 8) (by kernel_rfl) rfl rfl (fun K hK => ?_)
          go_simp
          refine hK _ _ HP6.out ?_
          clear hK K
          refine one_readyH (i := 9) (by kernel_rfl) rfl rfl (fun K hK => ?_)
          go_simp
          refine hK _ _ HP6.out ?_
          clear hK K
          refine one_readyH (i := 10) (by kernel_rfl) rfl rfl (fun K hK => ?_)
          go_simp
          have HB7 := hide (heap_setCell_same wt B 3 _ _ (.slice o5 (D.length + 1) c5) HB6.out)
          have HP7 : Hid ((wt.setCell ⟨B, 3, none⟩ (.slice o5 (D.length + 1) c5)).heap[w.heap.size]? = some (.cells #[.int .i64 a, .int .i64 g, .int .i64 s, .int .i64 m, .int .i64 z] 28)) := by
            show _ = _
            rw [heap_setCell_other _ _ _ _ (by simp; omega)]
            exact HP6.out
          have HL7 := hide (And.intro (HL6.out.1.setS k3 (.slice o5 (D.length + 1) c5)) (And.intro (HL6.out.2.1.setS k3 (.slice o5 (D.length + 1) c5)) (HL6.out.2.2.setS k3 (.slice o5 (D.length + 1) c5))))
          have HR7 := hide (ownsRow_setB HR6.out (p := ⟨B, 3, none⟩) hBb (.slice o5 (D.length + 1) c5))
          have HB8 := hide (HBt.out.setCell (p := ⟨B, 3, none⟩) (Nat.le_refl _) (.slice o5 (D.length + 1) c5))
          have hst' : base ≤ (wt.setCell ⟨B, 3, none⟩ (.slice o5 (D.length + 1) c5)).heap.size := by rw [World.size_setCell]; exact hst
          refine hK _ _ HP7.out ?_
          clear hK K k3 f3 HB6 HP6 HL6 HR6 HBt
          refine wpAnyH_done (by kernel_rfl) ?_ _
          generalize wt.setCell _ _ = wu at *
          go_wp2_with fail
          go_ret
          exact ⟨⟨rfl, o1, c1, o2, c2, o3, c3, o5, c5, by simpa using HB7.out, LedV.of HL7.out.1 HL7.out.2.1 HL7.out.2.2, by simpa using HR7.out, hBb, hst', by simpa using HOt.out, HFr.out, hFb⟩, HB8.out⟩

      · have hr' : (v == 3) = false := by simpa using hr
        have hr2' : (E == 5) = true := by simpa using hr2
        clear h1 hr hr2
        go_wp2_with fail
        refine wp_region_reads (fun w' => w'.heap[w.heap.size]? = some (.cells #[.int .i64 a, .int .i64 g, .int .i64 s, .int .i64 m, .int .i64 z] 28)) [0, 1, 2, 3, 5] 6 (by rfl) (by kernel_rfl) (by kernel_rfl) (by kernel_rfl) (fun c d v a w h => by cases d <;> exact h) ?_ ?_
        · exact at_below HSZ.out.2 (Below.refl _ _).drew
        refine wpPureH_step (.pointer (some ⟨B, 0, none⟩)) rfl rfl (fun w' _ => ?_) ?_
        · go_simp
        refine wpPureH_step (.pointer (some ⟨B, 0, none⟩)) rfl rfl (fun w' _ => ?_) ?_
        · go_simp
        refine wpPureH_step (.pointer (some ⟨B, 0, none⟩)) rfl rfl (fun w' _ => ?_) ?_
        · go_simp
        refine wpPureH_step (.pointer (some ⟨B, 3, none⟩)) rfl rfl (fun w' _ => ?_) ?_
        · go_simp
        refine wpPureH_step (tp a g s m z) rfl rfl (fun w' hS => ?_) ?_
        · have k0 := cell_of_row _ _ 0 _ _ _ hS
          have k1 := cell_of_row _ _ 1 _ _ _ hS
          have k2 := cell_of_row _ _ 2 _ _ _ hS
          have k3 := cell_of_row _ _ 3 _ _ _ hS
          have k4 := cell_of_row _ _ 4 _ _ _ hS
          simp at k0 k1 k2 k3 k4
          go_simp
        refine wpPureH_nil ?_
        have hdr := (Below.refl wz.heap.size wz).drew
        have HSy := hide (And.intro (at_below HSZ.out.1 hdr) (at_below HSZ.out.2 hdr))
        have HLy := hide (And.intro (HLZ.out.1.below hdr) (And.intro (HLZ.out.2.1.below hdr) (HLZ.out.2.2.below hdr)))
        have HRy := hide (ownsRow_below HRZ.out hdr)
        have HBy := hide HBZ.out.drew
        clear hdr HSZ HLZ HRZ HBZ H5 HNZ HFZ HX
        generalize World.drew _ = wy at *
        have hwy : w.heap.size ≤ wy.heap.size := HBy.out.size
        have hall := (Below.refl wy.heap.size wy).alloc (Nat.le_refl _) (.cells #[.int .i64 a, .int .i64 g, .int .i64 s, .int .i64 m, .int .i64 z] 28)
        have HSx := hide (And.intro (at_below HSy.out.1 hall) (at_below HSy.out.2 hall))
        have HLx := hide (And.intro (HLy.out.1.below hall) (And.intro (HLy.out.2.1.below hall) (HLy.out.2.2.below hall)))
        have HRx := hide (ownsRow_below HRy.out hall)
        have HBx := hide (HBy.out.trans (hall.mono hwy))
        have HNx := hide (five_newB wy a g s m z 28)
        have hsx : (wy.alloc (.cells #[.int .i64 a, .int .i64 g, .int .i64 s, .int .i64 m, .int .i64 z] 28)).heap.size = wy.heap.size + 1 := by simp
        have k3y := cell_of_row _ _ 3 _ _ _ HSy.out.1
        have k3x := cell_of_row _ _ 3 _ _ _ HSx.out.1
        simp at k3y k3x
        clear hall
        refine two_readyH (i := 4) (j := 6) (by kernel_rfl) rfl rfl rfl rfl (fun K hK => ?_) (fun K hK => ?_)
        · go_simp
          refine hK _ _ HSy.out.2 ?_
          clear hK K
          refine one_readyH (i := 6) (by kernel_rfl) rfl rfl (fun K hK => ?_)
          go_simp
          refine hK _ _ HSx.out.2 ?_
          clear hK K k3y k3x HSy HLy HRy HBy
          generalize wy.alloc (.cells #[.int .i64 a, .int .i64 g, .int .i64 s, .int .i64 m, .int .i64 z] 28) = wx at *
          refine one_readyH (i := 7) (by kernel_rfl) rfl rfl (fun K hK => ?_)
          refine wp_append_rowB _ _ 23 rfl base 28 i0 _ 5 40 Try.underlying23 hi hz0 hz1 hz2 rfl (by decide) (.slice o4 D.length c4) D.length (cellsP D) (by go_simp) HRx.out ⟨wy.heap.size, 0, none⟩ 1 1 [.int .i64 a, .int .i64 g, .int .i64 s, .int .i64 m, .int .i64 z] (by go_simp) rfl HNx.out (by intro u hu; simp at hu; rcases hu with rfl | rfl | rfl | rfl | rfl <;> rfl) (by unfold maxLen; omega) (by omega) (by omega) ?_
          intro v' wt hown hgrow hblk
          obtain ⟨o5, c5, rfl, hc5, hn5⟩ := own_sliceB hown
          have HB6 : Hid (wt.heap[B]? = some (.cells #[.slice o1 T.length c1, .slice o2 P.length c2, .slice o3 V.length c3, .slice o4 D.length c4] 65)) := heap_grownB hgrow HSx.out.1 (fun e => by have := (HRx.out.lt B e.symm).1; omega)
          have HP6 : Hid (wt.heap[w.heap.size]? = some (.cells #[.int .i64 a, .int .i64 g, .int .i64 s, .int .i64 m, .int .i64 z] 28)) := heap_grownB hgrow HSx.out.2 (fun e => by have := (HGL.out _ e.symm).2; omega)
          have HL6 := hide (And.intro (HLx.out.1.grown hgrow (fun k hk => (HO.out k hk).1)) (And.intro (HLx.out.2.1.grown hgrow (fun k hk => (HO.out k hk).2.1)) (HLx.out.2.2.grown hgrow (fun k hk => (HO.out k hk).2.2))))
          have HR6 : Hid (wt.ownsRow base 28 5 (.slice o5 (D.length + 1) c5) (D.length + 1) (cellsP (D ++ [(⟨a, g, s, m, z⟩ : TP)]))) := by
            show World.ownsRow _ _ _ _ _ _ _
            rw [cellsP_snoc]
            exact hown
          have HBt := hide ((HBx.out.mono (show B ≤ w.heap.size by omega)).grown hgrow (by omega) (fun k hk => by have := (HGL.out k hk).1; omega))
          have HOt : Hid (∀ k, (Value.slice o5 (D.length + 1) c5).ownBlock = some k → Off o1 T k ∧ Off o2 P k ∧ Off o3 V k) := by
            intro k hk
            rcases hblk with e | e
            · rw [e] at hk; exact HO.out k hk
            · rw [e] at hk
              obtain rfl : wx.heap.size = k := by simpa using hk
              exact ⟨off_ltT HLx.out.1, off_ltP HLx.out.2.1, off_ltI HLx.out.2.2⟩
          have hst : base ≤ wt.heap.size := by have := hgrow.size; omega
          clear hown hgrow hblk HSx HRx HLx HBx HNx
          refine hK _ _ HP6.out ?_
          clear hK K
          have k3 := cell_of_row _ _ 3 _ _ _ HB6.out
          have f3 := frozen_of_row _ _ 3 _ _ HB6.out
          simp at k3
          refine one_readyH (i := 8) (by kernel_rfl) rfl rfl (fun K hK => ?_)
          go_simp
          refine hK _ _ HP6.out ?_
          clear hK K
          refine one_readyH (i := 9) (by kernel_rfl) rfl rfl (fun K hK => ?_)
          go_simp
          refine hK _ _ HP6.out ?_
          clear hK K
          refine one_readyH (i := 10) (by kernel_rfl) rfl rfl (fun K hK => ?_)
          go_simp
          have HB7 := hide (heap_setCell_same wt B 3 _ _ (.slice o5 (D.length + 1) c5) HB6.out)
          have HP7 : Hid ((wt.setCell ⟨B, 3, none⟩ (.slice o5 (D.length + 1) c5)).heap[w.heap.size]? = some (.cells #[.int .i64 a, .int .i64 g, .int .i64 s, .int .i64 m, .int .i64 z] 28)) := by
            show _ = _
            rw [heap_setCell_other _ _ _ _ (by simp; omega)]
            exact HP6.out
          have HL7 := hide (And.intro (HL6.out.1.setS k3 (.slice o5 (D.length + 1) c5)) (And.intro (HL6.out.2.1.setS k3 (.slice o5 (D.length + 1) c5)) (HL6.out.2.2.setS k3 (.slice o5 (D.length + 1) c5))))
          have HR7 := hide (ownsRow_setB HR6.out (p := ⟨B, 3, none⟩) hBb (.slice o5 (D.length + 1) c5))
          have HB8 := hide (HBt.out.setCell (p := ⟨B, 3, none⟩) (Nat.le_refl _) (.slice o5 (D.length + 1) c5))
          have hst' : base ≤ (wt.setCell ⟨B, 3, none⟩ (.slice o5 (D.length + 1) c5)).heap.size := by rw [World.size_setCell]; exact hst
          refine hK _ _ HP7.out ?_
          clear hK K k3 f3 HB6 HP6 HL6 HR6 HBt
          refine wpAnyH_done (by kernel_rfl) ?_ _
          generalize wt.setCell _ _ = wu at *
          go_wp2_with fail
          go_ret
          exact ⟨⟨rfl, o1, c1, o2, c2, o3, c3, o5, c5, by simpa using HB7.out, LedV.of HL7.out.1 HL7.out.2.1 HL7.out.2.2, by simpa using HR7.out, hBb, hst', by simpa using HOt.out, HFr.out, hFb⟩, HB8.out⟩
        · go_simp
          refine hK _ _ HSx.out.2 ?_
          clear hK K
          refine one_readyH (i := 4) (by kernel_rfl) rfl rfl (fun K hK => ?_)
          go_simp
          refine hK _ _ HSx.out.2 ?_
          clear hK K k3y k3x HSy HLy HRy HBy
          generalize wy.alloc (.cells #[.int .i64 a, .int .i64 g, .int .i64 s, .int .i64 m, .int .i64 z] 28) = wx at *
          refine one_readyH (i := 7) (by kernel_rfl) rfl rfl (fun K hK => ?_)
          refine wp_append_rowB _ _ 23 rfl base 28 i0 _ 5 40 Try.underlying23 hi hz0 hz1 hz2 rfl (by decide) (.slice o4 D.length c4) D.length (cellsP D) (by go_simp) HRx.out ⟨wy.heap.size, 0, none⟩ 1 1 [.int .i64 a, .int .i64 g, .int .i64 s, .int .i64 m, .int .i64 z] (by go_simp) rfl HNx.out (by intro u hu; simp at hu; rcases hu with rfl | rfl | rfl | rfl | rfl <;> rfl) (by unfold maxLen; omega) (by omega) (by omega) ?_
          intro v' wt hown hgrow hblk
          obtain ⟨o5, c5, rfl, hc5, hn5⟩ := own_sliceB hown
          have HB6 : Hid (wt.heap[B]? = some (.cells #[.slice o1 T.length c1, .slice o2 P.length c2, .slice o3 V.length c3, .slice o4 D.length c4] 65)) := heap_grownB hgrow HSx.out.1 (fun e => by have := (HRx.out.lt B e.symm).1; omega)
          have HP6 : Hid (wt.heap[w.heap.size]? = some (.cells #[.int .i64 a, .int .i64 g, .int .i64 s, .int .i64 m, .int .i64 z] 28)) := heap_grownB hgrow HSx.out.2 (fun e => by have := (HGL.out _ e.symm).2; omega)
          have HL6 := hide (And.intro (HLx.out.1.grown hgrow (fun k hk => (HO.out k hk).1)) (And.intro (HLx.out.2.1.grown hgrow (fun k hk => (HO.out k hk).2.1)) (HLx.out.2.2.grown hgrow (fun k hk => (HO.out k hk).2.2))))
          have HR6 : Hid (wt.ownsRow base 28 5 (.slice o5 (D.length + 1) c5) (D.length + 1) (cellsP (D ++ [(⟨a, g, s, m, z⟩ : TP)]))) := by
            show World.ownsRow _ _ _ _ _ _ _
            rw [cellsP_snoc]
            exact hown
          have HBt := hide ((HBx.out.mono (show B ≤ w.heap.size by omega)).grown hgrow (by omega) (fun k hk => by have := (HGL.out k hk).1; omega))
          have HOt : Hid (∀ k, (Value.slice o5 (D.length + 1) c5).ownBlock = some k → Off o1 T k ∧ Off o2 P k ∧ Off o3 V k) := by
            intro k hk
            rcases hblk with e | e
            · rw [e] at hk; exact HO.out k hk
            · rw [e] at hk
              obtain rfl : wx.heap.size = k := by simpa using hk
              exact ⟨off_ltT HLx.out.1, off_ltP HLx.out.2.1, off_ltI HLx.out.2.2⟩
          have hst : base ≤ wt.heap.size := by have := hgrow.size; omega
          clear hown hgrow hblk HSx HRx HLx HBx HNx
          refine hK _ _ HP6.out ?_
          clear hK K
          have k3 := cell_of_row _ _ 3 _ _ _ HB6.out
          have f3 := frozen_of_row _ _ 3 _ _ HB6.out
          simp at k3
          refine one_readyH (i := 8) (by kernel_rfl) rfl rfl (fun K hK => ?_)
          go_simp
          refine hK _ _ HP6.out ?_
          clear hK K
          refine one_readyH (i := 9) (by kernel_rfl) rfl rfl (fun K hK => ?_)
          go_simp
          refine hK _ _ HP6.out ?_
          clear hK K
          refine one_readyH (i := 10) (by kernel_rfl) rfl rfl (fun K hK => ?_)
          go_simp
          have HB7 := hide (heap_setCell_same wt B 3 _ _ (.slice o5 (D.length + 1) c5) HB6.out)
          have HP7 : Hid ((wt.setCell ⟨B, 3, none⟩ (.slice o5 (D.length + 1) c5)).heap[w.heap.size]? = some (.cells #[.int .i64 a, .int .i64 g, .int .i64 s, .int .i64 m, .int .i64 z] 28)) := by
            show _ = _
            rw [heap_setCell_other _ _ _ _ (by simp; omega)]
            exact HP6.out
          have HL7 := hide (And.intro (HL6.out.1.setS k3 (.slice o5 (D.length + 1) c5)) (And.intro (HL6.out.2.1.setS k3 (.slice o5 (D.length + 1) c5)) (HL6.out.2.2.setS k3 (.slice o5 (D.length + 1) c5))))
          have HR7 := hide (ownsRow_setB HR6.out (p := ⟨B, 3, none⟩) hBb (.slice o5 (D.length + 1) c5))
          have HB8 := hide (HBt.out.setCell (p := ⟨B, 3, none⟩) (Nat.le_refl _) (.slice o5 (D.length + 1) c5))
          have hst' : base ≤ (wt.setCell ⟨B, 3, none⟩ (.slice o5 (D.length + 1) c5)).heap.size := by rw [World.size_setCell]; exact hst
          refine hK _ _ HP7.out ?_
          clear hK K k3 f3 HB6 HP6 HL6 HR6 HBt
          refine wpAnyH_done (by kernel_rfl) ?_ _
          generalize wt.setCell _ _ = wu at *
          go_wp2_with fail
          go_ret
          exact ⟨⟨rfl, o1, c1, o2, c2, o3, c3, o5, c5, by simpa using HB7.out, LedV.of HL7.out.1 HL7.out.2.1 HL7.out.2.2, by simpa using HR7.out, hBb, hst', by simpa using HOt.out, HFr.out, hFb⟩, HB8.out⟩

    · have h1' : (E == 0) = false := by simpa using h1
      obtain rfl := h2.symm
      obtain rfl := h3.symm
      obtain rfl := h4.symm
      obtain rfl := h5.symm
      have hv' : (v == 3) = false := by simpa using hv
      have h5' : (E == 5) = false := by simpa using h5e
      clear h1 hv h5e
      go_wp2_with fail
      go_ret
      exact ⟨⟨rfl, o1, c1, o2, c2, o3, c3, o4, c4, HSZ.out.1, LedV.of HLZ.out.1 HLZ.out.2.1 HLZ.out.2.2, HRZ.out, hBb, Nat.le_trans hbase HBZ.out.size, HO.out, HFr.out, hFb⟩, HBZ.out.mono (by omega)⟩

end Go.Proofs.Ytefdnddaggpgkaa
