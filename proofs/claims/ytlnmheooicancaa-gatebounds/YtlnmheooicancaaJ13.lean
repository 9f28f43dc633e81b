/-
  For GateBounds: the lists of a gate, apart from a block that is written; Tap in one sentence; what a tap that was let through tells.
-/
import Derived.Test.YtlnmheooicancaaJ10
import Derived.Laws.Rows
namespace Go.Proofs.Ytlnmheooicancaa
open Go.RowKit

/-- the lists of a gate -/
def GtL (w : World) (o1 : Option Addr) (n1 c1 : Nat) (o2 : Option Addr) (n2 c2 : Nat) (P : List TP) (D : List Int) : Prop := TapsV w (.slice o1 n1 c1) P ∧ IntsV w (.slice o2 n2 c2) D

/-- they don't lie in block b -/
def GtA (b : Nat) (o1 o2 : Option Addr) (P : List TP) (D : List Int) : Prop := (∀ A, o1 = some A → P ≠ [] → A.block ≠ b) ∧ (∀ A, o2 = some A → D ≠ [] → A.block ≠ b)

section
variable {w w' : World} {o1 o2 : Option Addr} {n1 c1 n2 c2 b : Nat} {P : List TP} {D : List Int}

theorem GtL.below (h : GtL w o1 n1 c1 o2 n2 c2 P D) (hb : Below w.heap.size w w') : GtL w' o1 n1 c1 o2 n2 c2 P D := ⟨h.1.below hb, h.2.below hb⟩

theorem GtL.parts (h : GtL w o1 n1 c1 o2 n2 c2 P D) : (n1 = P.length ∧ TapsAt w o1 P ∧ (o1 = none → c1 = 0)) ∧ (n2 = D.length ∧ IntsAt w o2 D ∧ (o2 = none → c2 = 0)) := by
  obtain ⟨⟨o, c, e, h1, h2, h3⟩, ⟨o', c', e', g1, g2, g3⟩⟩ := h
  simp only [Value.slice.injEq] at e e'
  obtain ⟨rfl, rfl, rfl⟩ := e
  obtain ⟨rfl, rfl, rfl⟩ := e'
  exact ⟨⟨rfl, h1, h3⟩, rfl, g1, g3⟩

theorem GtA.fresh {B : Nat} (h1 : Fresh B (.slice o1 n1 c1)) (h2 : Fresh B (.slice o2 n2 c2)) (hb : b < B) : GtA b o1 o2 P D :=
  ⟨fun A hA _ e => by subst hA; have : B ≤ A.block := h1 _ rfl; omega, fun A hA _ e => by subst hA; have : B ≤ A.block := h2 _ rfl; omega⟩

theorem GtA.late (h : GtL w o1 n1 c1 o2 n2 c2 P D) (hb : w.heap.size ≤ b) : GtA b o1 o2 P D := by
  obtain ⟨⟨-, h1, -⟩, -, h2, -⟩ := h.parts
  refine ⟨fun A hA hne e => ?_, fun A hA hne e => ?_⟩
  · cases P with
    | nil => exact hne rfl
    | cons p P =>
      obtain ⟨A', e', h5⟩ := h1 0 p rfl
      rw [hA] at e'
      cases e'
      have := h5.lt
      rw [add_block] at this
      omega
  · cases D with
    | nil => exact hne rfl
    | cons p D =>
      obtain ⟨A', e', h5⟩ := h2 0 p rfl
      rw [hA] at e'
      cases e'
      have := World.block_lt_of_cell? w _ h5
      rw [add_block] at this
      omega

theorem GtL.set (h : GtL w o1 n1 c1 o2 n2 c2 P D) (ha : GtA b o1 o2 P D) (j : Nat) (u : Value) : GtL (w.setCell ⟨b, j, none⟩ u) o1 n1 c1 o2 n2 c2 P D := by
  obtain ⟨⟨o, c, e, h1, h2⟩, ⟨o', c', e', g1, g2⟩⟩ := h
  simp only [Value.slice.injEq] at e e'
  obtain ⟨rfl, rfl, rfl⟩ := e
  obtain ⟨rfl, rfl, rfl⟩ := e'
  refine ⟨⟨o1, c1, rfl, fun i x hi => ?_, h2⟩, ⟨o2, c2, rfl, fun i x hi => ?_, g2⟩⟩
  · obtain ⟨A, rfl, a0, a1, a2, a3, a4⟩ := h1 i x hi
    have hA := ha.1 A rfl (by intro e; rw [e] at hi; cases hi)
    have hne : ∀ n, (⟨b, j, none⟩ : Addr).block ≠ (A.add n).block := fun n => by rw [add_block]; exact fun e => hA e.symm
    exact ⟨A, rfl, cell_set_ne (hne _) a0, cell_set_ne (by simpa using hne _) a1, cell_set_ne (by simpa using hne _) a2, cell_set_ne (by simpa using hne _) a3, cell_set_ne (by simpa using hne _) a4⟩
  · obtain ⟨A, rfl, a0⟩ := g1 i x hi
    have hA := ha.2 A rfl (by intro e; rw [e] at hi; cases hi)
    exact ⟨A, rfl, cell_set_ne (by rw [add_block]; exact fun e => hA e.symm) a0⟩
end

theorem row8 {w : World} {b : Nat} {T : TypeId} {a0 a1 a2 a3 a4 a5 a6 a7 : Value} (h : w.heap[b]? = some (.cells #[a0, a1, a2, a3, a4, a5, a6, a7] T (0, 0))) (v0 v1 v2 v3 v4 v5 v6 v7 : Value) :
    ((((((((w.setCell ⟨b, 0, none⟩ v0).setCell ⟨b, 1, none⟩ v1).setCell ⟨b, 2, none⟩ v2).setCell ⟨b, 3, none⟩ v3).setCell ⟨b, 4, none⟩ v4).setCell ⟨b, 5, none⟩ v5).setCell ⟨b, 6, none⟩ v6).setCell ⟨b, 7, none⟩ v7).heap[b]? = some (.cells #[v0, v1, v2, v3, v4, v5, v6, v7] T (0, 0)) := by
  have h0 := heap_setCell_same _ b 0 _ T v0 h
  have h1 := heap_setCell_same _ b 1 _ T v1 h0
  have h2 := heap_setCell_same _ b 2 _ T v2 h1
  have h3 := heap_setCell_same _ b 3 _ T v3 h2
  have h4 := heap_setCell_same _ b 4 _ T v4 h3
  have h5 := heap_setCell_same _ b 5 _ T v5 h4
  have h6 := heap_setCell_same _ b 6 _ T v6 h5
  have h7 := heap_setCell_same _ b 7 _ T v7 h6
  simpa using h7

theorem row5 {w : World} {b : Nat} {T : TypeId} {a0 a1 a2 a3 a4 : Value} (h : w.heap[b]? = some (.cells #[a0, a1, a2, a3, a4] T (0, 0))) (v0 v1 v2 v3 v4 : Value) :
    (((((w.setCell ⟨b, 0, none⟩ v0).setCell ⟨b, 1, none⟩ v1).setCell ⟨b, 2, none⟩ v2).setCell ⟨b, 3, none⟩ v3).setCell ⟨b, 4, none⟩ v4).heap[b]? = some (.cells #[v0, v1, v2, v3, v4] T (0, 0)) := by
  have h0 := heap_setCell_same _ b 0 _ T v0 h
  have h1 := heap_setCell_same _ b 1 _ T v1 h0
  have h2 := heap_setCell_same _ b 2 _ T v2 h1
  have h3 := heap_setCell_same _ b 3 _ T v3 h2
  have h4 := heap_setCell_same _ b 4 _ T v4 h3
  simpa using h4

theorem cells8 {w : World} {b : Nat} {T : TypeId} {a0 a1 a2 a3 a4 a5 a6 a7 : Value} (h : w.heap[b]? = some (.cells #[a0, a1, a2, a3, a4, a5, a6, a7] T (0, 0))) : w.cell? ⟨b, 0, none⟩ = some a0 ∧ w.cell? ⟨b, 1, none⟩ = some a1 ∧ w.cell? ⟨b, 2, none⟩ = some a2 ∧ w.cell? ⟨b, 3, none⟩ = some a3 ∧ w.cell? ⟨b, 4, none⟩ = some a4 ∧ w.cell? ⟨b, 5, none⟩ = some a5 ∧ w.cell? ⟨b, 6, none⟩ = some a6 ∧ w.cell? ⟨b, 7, none⟩ = some a7 := by
  refine ⟨?_, ?_, ?_, ?_, ?_, ?_, ?_, ?_⟩
  · rw [cell_of_row w b 0 _ _ _ h]; rfl
  · rw [cell_of_row w b 1 _ _ _ h]; rfl
  · rw [cell_of_row w b 2 _ _ _ h]; rfl
  · rw [cell_of_row w b 3 _ _ _ h]; rfl
  · rw [cell_of_row w b 4 _ _ _ h]; rfl
  · rw [cell_of_row w b 5 _ _ _ h]; rfl
  · rw [cell_of_row w b 6 _ _ _ h]; rfl
  · rw [cell_of_row w b 7 _ _ _ h]; rfl

theorem cells5 {w : World} {b : Nat} {T : TypeId} {a0 a1 a2 a3 a4 : Value} (h : w.heap[b]? = some (.cells #[a0, a1, a2, a3, a4] T (0, 0))) : w.cell? ⟨b, 0, none⟩ = some a0 ∧ w.cell? ⟨b, 1, none⟩ = some a1 ∧ w.cell? ⟨b, 2, none⟩ = some a2 ∧ w.cell? ⟨b, 3, none⟩ = some a3 ∧ w.cell? ⟨b, 4, none⟩ = some a4 := by
  refine ⟨?_, ?_, ?_, ?_, ?_⟩
  · rw [cell_of_row w b 0 _ _ _ h]; rfl
  · rw [cell_of_row w b 1 _ _ _ h]; rfl
  · rw [cell_of_row w b 2 _ _ _ h]; rfl
  · rw [cell_of_row w b 3 _ _ _ h]; rfl
  · rw [cell_of_row w b 4 _ _ _ h]; rfl

theorem cells_blockG {w : World} {b : Nat} {cur : Array Value} {e : TypeId} (h : w.heap[b]? = some (.cells cur e (0, 0))) : ∀ j u, cur.toList[j]? = some u → w.cell? ((⟨b, 0, none⟩ : Addr).add j) = some u := by
  intro j u hj
  have : (⟨b, 0, none⟩ : Addr).add j = ⟨b, j, none⟩ := by
    by_cases h : j = 0
    · subst h; simp [Addr.add]
    · simp [Addr.add, h]
  rw [this, cell_of_row w b j _ _ _ h]
  simpa using hj

theorem row_far {w : World} {b k : Nat} {o : Obj} (h : w.heap[k]? = some o) (hne : k ≠ b) (j : Nat) (u : Value) : (w.setCell ⟨b, j, none⟩ u).heap[k]? = some o := by
  rw [heap_setCell_other w ⟨b, j, none⟩ k u hne]; exact h

theorem heap_alloc_newG (w : World) (o : Obj) (n : Nat) (h : n = w.heap.size) : (w.alloc o).heap[n]? = some o := by
  subst h
  exact heap_alloc_new w o

theorem row_onG {w w' : World} {b : Nat} {o : Obj} (h : w.heap[b]? = some o) (hb : Below w.heap.size w w') : w'.heap[b]? = some o := by
  rw [hb.block _ (Array.getElem?_eq_some_iff.1 h).1]
  exact h

theorem below_drewG {B : Nat} {a w : World} (h : Below B a w) (n : Nat) : Below B a (w.drewN n) := h.trans ⟨rfl, rfl, rfl, Nat.le_refl _, fun _ _ => rfl⟩

theorem act_of {F : Exit → Act → World → Prop} {a b : Act} {w : World} (h : a = b) (hb : F .normal b w) : F .normal a w := h ▸ hb

theorem row_ltG {w : World} {b : Nat} {o : Obj} (h : w.heap[b]? = some o) : b < w.heap.size := (Array.getElem?_eq_some_iff.1 h).1

theorem gateTapX (i z s : Int) (oa : Option Addr) (P : List TP) (ca : Nat) (v : Int) (od : Option Addr) (D : List Int) (cd : Nat) (l u : Int) (x : TK) (m : Int) (w : World) (hP : TapsAt w oa P) (hD : IntsAt w od D) (hlP : P.length ≤ 9223372036854775807) (hlD : D.length ≤ 9223372036854775807) (hn : oa = none → ca = 0) :
    Calls Try.prog 6 #[gtV i z s oa P.length ca v od D.length cd l u, tk x.i x.k x.f x.t x.z x.r, .int .i64 m] w fun e w' => (∃ ai az aq o1 n1 c1 av o2 n2 c2 al au pa pg ps pm pz Pn Dn, e = .returned (.tuple #[gtV ai az aq o1 n1 c1 av o2 n2 c2 al au, tp pa pg ps pm pz, .int .i64 (tapG i z s P v D l u x m)]) ∧ Fresh w.heap.size (.slice o1 n1 c1) ∧ Fresh w.heap.size (.slice o2 n2 c2) ∧ GtL w' o1 n1 c1 o2 n2 c2 Pn Dn ∧ (tapG i z s P v D l u x m = 0 → (ai = i ∧ az = z ∧ aq = s + 1 ∧ av = v ∧ al = l - 1 ∧ au = u) ∧ (pa = x.i ∧ pg = i ∧ ps = s + 1 ∧ pm = m ∧ pz = z) ∧ Pn = P ++ [⟨x.i, i, s + 1, m, z⟩] ∧ Dn = D)) ∧ Below w.heap.size w w' := by
  by_cases hE : tapG i z s P v D l u x m = 0
  · refine (gateTap_ok i z s oa P ca v od D cd l u x.i x.k x.f x.t x.z x.r m w hP hD hlP hlD hn hE).mono ?_
    rintro e w' ⟨⟨g, rfl, ⟨o1, c1, o2, c2, rfl, h1, f1, h2, f2⟩⟩, hb⟩
    rw [hE]
    exact ⟨⟨_, _, _, _, _, _, _, _, _, _, _, _, _, _, _, _, _, _, _, rfl, f1, f2, ⟨h1, h2⟩, fun _ => ⟨⟨rfl, rfl, rfl, rfl, rfl, rfl⟩, ⟨rfl, rfl, rfl, rfl, rfl⟩, rfl, rfl⟩⟩, hb⟩
  · refine (gateTap_err i z s oa P ca v od D cd l u x.i x.k x.f x.t x.z x.r m w hP hD hlP hlD hE).mono ?_
    rintro e w' ⟨rfl, hb⟩
    exact ⟨⟨0, 0, 0, none, 0, 0, 0, none, 0, 0, 0, 0, 0, 0, 0, 0, 0, [], [], rfl, fun k hk => by simp [Value.ownBlock] at hk, fun k hk => by simp [Value.ownBlock] at hk, ⟨⟨none, 0, rfl, fun i p h => by simp at h, by simp, fun _ => rfl⟩, ⟨none, 0, rfl, fun i p h => by simp at h, by simp, fun _ => rfl⟩⟩, fun h => absurd h hE⟩, hb⟩

/-- what a tap that was let through tells -/
theorem tap_bounds {i z s : Int} {P : List TP} {v : Int} {D : List Int} {l u : Int} {x : TK} {m : Int} (h : tapG i z s P v D l u x m = 0) :
    (1 ≤ l ∧ l ≤ 9) ∧ m ≤ u ∧ hasI D x.i = false ∧ (x.k ≠ 2 → ∀ y ∈ P, y.a ≠ x.i) ∧ P.length ≤ 11 ∧ (0 ≤ s ∧ s ≤ 98) ∧ D.length ≤ 12 := by
  obtain ⟨h1, h2, h3, h4⟩ := tapG_right h
  obtain ⟨g1, g2, g3, g4⟩ := unfG_right h1
  obtain ⟨c1, c2, c3, c4⟩ := chkG_right g1
  obtain ⟨s1, s2, s3, s4⟩ := errS_right c1
  have b := errB_zero.1 c4
  rw [fullG, Bool.or_eq_false_iff] at h4
  have f1 : ¬ (P.length : Int) = 12 := by simpa using h4.1
  have f2 : ¬ s = 99 := by simpa using h4.2
  rw [spentG, Bool.or_eq_false_iff] at h3
  have l0 : ¬ l = 0 := by simpa using h3.1
  have hD : D.length ≤ 12 := (chkD_right c3).2.2.1
  refine ⟨by omega, ?_, ?_, ?_, by omega, by omega, hD⟩
  · rw [shutG] at h2
    split at h2
    · omega
    split at h2
    · omega
    split at h2
    · omega
    · omega
  · rw [shutG] at h2
    cases hh : hasI D x.i
    · rfl
    · rw [hh, if_pos rfl] at h2; omega
  · intro hk y hy e
    have h3' := h3.2
    have hk' : (x.k != 2) = true := by simpa using hk
    rw [hk', Bool.true_and, hasA, List.any_eq_false] at h3'
    have := h3' y hy
    simp [e] at this
end Go.Proofs.Ytlnmheooicancaa
