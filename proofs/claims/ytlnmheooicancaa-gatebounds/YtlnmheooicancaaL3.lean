/-
  'rides' (package ledger): the rides that were counted of a ticket, in order.
-/
import Derived.Test.YtlnmheooicancaaL2
import Derived.OwnWalk
namespace Go.Proofs.Ytlnmheooicancaa
open Go.RowKit

theorem info32 : (Try.prog.info? 35).map (fun i => (i.zero, i.size, i.bytes)) = some (some (.agg #[.int .i64 0, .int .i64 0, .int .i64 0, .int .i64 0, .int .i64 0]), 5, 40) := by kernel_rfl

/-- the cells of taps -/
def cellsP (L : List TP) : List Value := L.flatMap fun p => [.int .i64 p.a, .int .i64 p.g, .int .i64 p.s, .int .i64 p.m, .int .i64 p.z]

theorem cellsP_len (L : List TP) : (cellsP L).length = L.length * 5 := by
  induction L with
  | nil => rfl
  | cons p L ih =>
    rw [cellsP, List.flatMap_cons, List.length_append, List.length_cons, ← cellsP, ih]
    simp; omega

theorem cellsP_snoc (L : List TP) (p : TP) : cellsP (L ++ [p]) = cellsP L ++ [.int .i64 p.a, .int .i64 p.g, .int .i64 p.s, .int .i64 p.m, .int .i64 p.z] := by simp [cellsP]

theorem cellsP_get (L : List TP) (i : Nat) (p : TP) (h : L[i]? = some p) (j : Nat) (hj : j < 5) : (cellsP L)[i * 5 + j]? = [Value.int .i64 p.a, .int .i64 p.g, .int .i64 p.s, .int .i64 p.m, .int .i64 p.z][j]? := by
  induction L generalizing i with
  | nil => simp at h
  | cons q L ih =>
    rw [cellsP, List.flatMap_cons, ← cellsP]
    match i, h with
    | 0, h =>
      simp at h
      subst h
      rw [List.getElem?_append_left (by simp; omega)]
      simp
    | i + 1, h =>
      rw [List.getElem?_append_right (by simp; omega)]
      simp only [List.length_cons, List.length_nil]
      rw [show (i + 1) * 5 + j - (0 + 1 + 1 + 1 + 1 + 1) = i * 5 + j by omega]
      exact ih i (by simpa using h)

theorem add_block (a : Addr) (n : Nat) : (a.add n).block = a.block := by
  unfold Addr.add
  split <;> rfl

/-- taps that a call has made itself -/
theorem taps_own {w : World} {base n : Nat} {v : Value} {L : List TP} (h : w.ownsRow base 35 5 v n (cellsP L)) : n = L.length ∧ ∃ (o : Option Addr) (cap : Nat), v = .slice o L.length cap ∧ TapsAt w o L := by
  have hn : n = L.length := by have := h.1; rw [cellsP_len] at this; omega
  subst hn
  refine ⟨rfl, ?_⟩
  have hc := fun g => h.cells (g := g)
  rcases h.2 with ⟨rfl, h0⟩ | ⟨g, cap, cur, rfl, -⟩
  · have : L = [] := List.eq_nil_of_length_eq_zero h0
    subst this
    exact ⟨none, 0, rfl, fun i p hi => by simp at hi⟩
  · refine ⟨_, cap, rfl, fun i p hi => ⟨_, rfl, ?_⟩⟩
    have e := fun j hj => cellsP_get L i p hi j hj
    have c := fun j u hu => hc g rfl (i * 5 + j) u hu
    have a0 : ∀ j, ((⟨g, 0, none⟩ : Addr).add (i * 5 + j)) = ⟨((⟨g, 0, none⟩ : Addr).add (i * 5)).block, ((⟨g, 0, none⟩ : Addr).add (i * 5)).off + j, none⟩ := by
      intro j
      by_cases h1 : i * 5 = 0 <;> by_cases h2 : j = 0 <;> simp [Addr.add, h1, h2]
    refine ⟨?_, ?_, ?_, ?_, ?_⟩
    · have := c 0 _ (e 0 (by omega))
      simpa using this
    · rw [← a0]; exact c 1 _ (e 1 (by omega))
    · rw [← a0]; exact c 2 _ (e 2 (by omega))
    · rw [← a0]; exact c 3 _ (e 3 (by omega))
    · rw [← a0]; exact c 4 _ (e 4 (by omega))

/-- the rides of a ticket -/
def ridesL (X : List (TP × Int)) (id : Int) : List TP := (X.filter fun x => x.1.a == id && x.2 == 1).map (·.1)

theorem ridesL_snoc (X : List (TP × Int)) (x : TP × Int) (id : Int) : ridesL (X ++ [x]) id = if (x.1.a == id && x.2 == 1) = true then ridesL X id ++ [x.1] else ridesL X id := by
  unfold ridesL
  rw [List.filter_append]
  by_cases h : (x.1.a == id && x.2 == 1) = true
  · simp only [List.filter_cons, h, if_true, List.filter_nil, List.map_append, List.map_cons, List.map_nil]
  · simp only [List.filter_cons, h, List.filter_nil]
    simp

theorem five_new (w : World) (a g s m z : Int) (T : TypeId) : ∀ j u, [Value.int .i64 a, .int .i64 g, .int .i64 s, .int .i64 m, .int .i64 z][j]? = some u → (w.alloc (cP a g s m z T)).cell? ((⟨w.heap.size, 0, none⟩ : Addr).add j) = some u := by
  intro j u hj
  match j, hj with
  | 0, hj | 1, hj | 2, hj | 3, hj | 4, hj =>
    simp at hj
    subst hj
    simp [Addr.add, go_sem]

end Go.Proofs.Ytlnmheooicancaa
