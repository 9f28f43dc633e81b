/-
  Tickets, taps and integers as cells of a row; a row that a call has made itself.
-/
import Derived.Test.YtlnmheooicancaaL3
namespace Go.Proofs.Ytlnmheooicancaa
open Go.RowKit

theorem info23 : (Try.prog.info? 39).map (fun i => (i.zero, i.size, i.bytes)) = some (some (.agg #[.int .i64 0, .int .i64 0, .int .i64 0, .int .i64 0, .int .i64 0, .int .i64 0]), 6, 48) := by kernel_rfl
theorem info3 : (Try.prog.info? 3).map (fun i => (i.zero, i.size, i.bytes)) = some (some (.int .i64 0), 1, 8) := by kernel_rfl

theorem addr_off (A : Addr) (n r : Nat) (hr : 0 < r) : (⟨(A.add n).block, (A.add n).off + r, none⟩ : Addr) = A.add (n + r) := by
  by_cases h1 : n = 0
  · subst h1
    simp [Addr.add, Nat.ne_of_gt hr]
  · simp [Addr.add, h1, Nat.ne_of_gt hr]
    omega

/-- the cells of tickets -/
def cellsK (L : List TK) : List Value := L.flatMap fun p => [.int .i64 p.i, .int .i64 p.k, .int .i64 p.f, .int .i64 p.t, .int .i64 p.z, .int .i64 p.r]
/-- the cells of integers -/
def cellsV (L : List Int) : List Value := L.map fun n => .int .i64 n

theorem cellsK_len (L : List TK) : (cellsK L).length = L.length * 6 := by
  induction L with
  | nil => rfl
  | cons p L ih =>
    rw [cellsK, List.flatMap_cons, List.length_append, List.length_cons, ← cellsK, ih]
    simp; omega

theorem cellsV_len (L : List Int) : (cellsV L).length = L.length * 1 := by simp [cellsV]

theorem cellsP_app (L M : List TP) : cellsP (L ++ M) = cellsP L ++ cellsP M := by simp [cellsP]
theorem cellsK_app (L M : List TK) : cellsK (L ++ M) = cellsK L ++ cellsK M := by simp [cellsK]
theorem cellsV_app (L M : List Int) : cellsV (L ++ M) = cellsV L ++ cellsV M := by simp [cellsV]

theorem cellsK_get (L : List TK) (i : Nat) (p : TK) (h : L[i]? = some p) (j : Nat) (hj : j < 6) : (cellsK L)[i * 6 + j]? = [Value.int .i64 p.i, .int .i64 p.k, .int .i64 p.f, .int .i64 p.t, .int .i64 p.z, .int .i64 p.r][j]? := by
  induction L generalizing i with
  | nil => simp at h
  | cons q L ih =>
    rw [cellsK, List.flatMap_cons, ← cellsK]
    match i, h with
    | 0, h =>
      simp at h
      subst h
      rw [List.getElem?_append_left (by simp; omega)]
      simp
    | i + 1, h =>
      rw [List.getElem?_append_right (by simp; omega)]
      simp only [List.length_cons, List.length_nil]
      rw [show (i + 1) * 6 + j - (0 + 1 + 1 + 1 + 1 + 1 + 1) = i * 6 + j by omega]
      exact ih i (by simpa using h)

theorem oneP (L : List TP) : ∀ u ∈ cellsP L, u.oneCell' = true := by
  intro u hu
  simp only [cellsP, List.mem_flatMap, List.mem_cons, List.not_mem_nil, or_false] at hu
  obtain ⟨p, -, h⟩ := hu
  rcases h with rfl | rfl | rfl | rfl | rfl <;> rfl
theorem oneK (L : List TK) : ∀ u ∈ cellsK L, u.oneCell' = true := by
  intro u hu
  simp only [cellsK, List.mem_flatMap, List.mem_cons, List.not_mem_nil, or_false] at hu
  obtain ⟨p, -, h⟩ := hu
  rcases h with rfl | rfl | rfl | rfl | rfl | rfl <;> rfl
theorem oneV (L : List Int) : ∀ u ∈ cellsV L, u.oneCell' = true := by
  intro u hu
  obtain ⟨p, -, rfl⟩ := List.mem_map.1 hu
  rfl

theorem taps_cells {w : World} {A : Addr} {L : List TP} (h : TapsAt w (some A) L) : ∀ j u, (cellsP L)[j]? = some u → w.cell? (A.add j) = some u := by
  intro j u hu
  have hlt := (List.getElem?_eq_some_iff.1 hu).1
  rw [cellsP_len] at hlt
  obtain ⟨p, hp⟩ : ∃ p, L[j / 5]? = some p := ⟨L[j / 5]'(by omega), by simp⟩
  obtain ⟨b, hb, c0, c1, c2, c3, c4⟩ := h _ p hp
  cases hb
  have hj : j = j / 5 * 5 + j % 5 := by omega
  have hr : j % 5 < 5 := by omega
  have e := cellsP_get L _ p hp (j % 5) hr
  rw [← hj, hu] at e
  generalize j / 5 = q at *
  generalize j % 5 = r at *
  subst hj
  match r, hr, e with
  | 0, _, e => simp at e; subst e; exact c0
  | 1, _, e => simp at e; subst e; rw [← addr_off _ _ _ (by decide)]; exact c1
  | 2, _, e => simp at e; subst e; rw [← addr_off _ _ _ (by decide)]; exact c2
  | 3, _, e => simp at e; subst e; rw [← addr_off _ _ _ (by decide)]; exact c3
  | 4, _, e => simp at e; subst e; rw [← addr_off _ _ _ (by decide)]; exact c4

theorem tiks_cells {w : World} {A : Addr} {L : List TK} (h : TiksAt w (some A) L) : ∀ j u, (cellsK L)[j]? = some u → w.cell? (A.add j) = some u := by
  intro j u hu
  have hlt := (List.getElem?_eq_some_iff.1 hu).1
  rw [cellsK_len] at hlt
  obtain ⟨p, hp⟩ : ∃ p, L[j / 6]? = some p := ⟨L[j / 6]'(by omega), by simp⟩
  obtain ⟨b, hb, c0, c1, c2, c3, c4, c5⟩ := h _ p hp
  cases hb
  have hj : j = j / 6 * 6 + j % 6 := by omega
  have hr : j % 6 < 6 := by omega
  have e := cellsK_get L _ p hp (j % 6) hr
  rw [← hj, hu] at e
  generalize j / 6 = q at *
  generalize j % 6 = r at *
  subst hj
  match r, hr, e with
  | 0, _, e => simp at e; subst e; exact c0
  | 1, _, e => simp at e; subst e; rw [← addr_off _ _ _ (by decide)]; exact c1
  | 2, _, e => simp at e; subst e; rw [← addr_off _ _ _ (by decide)]; exact c2
  | 3, _, e => simp at e; subst e; rw [← addr_off _ _ _ (by decide)]; exact c3
  | 4, _, e => simp at e; subst e; rw [← addr_off _ _ _ (by decide)]; exact c4
  | 5, _, e => simp at e; subst e; rw [← addr_off _ _ _ (by decide)]; exact c5

theorem ints_cells {w : World} {A : Addr} {L : List Int} (h : IntsAt w (some A) L) : ∀ j u, (cellsV L)[j]? = some u → w.cell? (A.add j) = some u := by
  intro j u hu
  rw [cellsV, List.getElem?_map, Option.map_eq_some_iff] at hu
  obtain ⟨n, hn, rfl⟩ := hu
  obtain ⟨b, hb, c⟩ := h j n hn
  cases hb
  exact c

/-- a list that lies behind a slice -/
def TapsV (w : World) (v : Value) (L : List TP) : Prop := ∃ o cap, v = .slice o L.length cap ∧ TapsAt w o L ∧ L.length ≤ cap ∧ (o = none → cap = 0)
def TiksV (w : World) (v : Value) (L : List TK) : Prop := ∃ o cap, v = .slice o L.length cap ∧ TiksAt w o L ∧ L.length ≤ cap ∧ (o = none → cap = 0)
def IntsV (w : World) (v : Value) (L : List Int) : Prop := ∃ o cap, v = .slice o L.length cap ∧ IntsAt w o L ∧ L.length ≤ cap ∧ (o = none → cap = 0)

theorem TapsV.below {w w' : World} {v : Value} {L : List TP} (h : TapsV w v L) (hb : Below w.heap.size w w') : TapsV w' v L := have ⟨o, c, e, h1, h2⟩ := h; ⟨o, c, e, h1.below hb, h2⟩
theorem TiksV.below {w w' : World} {v : Value} {L : List TK} (h : TiksV w v L) (hb : Below w.heap.size w w') : TiksV w' v L := have ⟨o, c, e, h1, h2⟩ := h; ⟨o, c, e, h1.below hb, h2⟩
theorem IntsV.below {w w' : World} {v : Value} {L : List Int} (h : IntsV w v L) (hb : Below w.heap.size w w') : IntsV w' v L := have ⟨o, c, e, h1, h2⟩ := h; ⟨o, c, e, h1.below hb, h2⟩

theorem tapsV_own {w : World} {base n : Nat} {v : Value} {L : List TP} (h : w.ownsRow base 35 5 v n (cellsP L)) : TapsV w v L := by
  obtain ⟨hn, o, cap, rfl, hT⟩ := taps_own h
  subst hn
  rcases h.2 with ⟨e, h0⟩ | ⟨g, c, cur, e, -, -, hc, -⟩
  · simp only [Value.slice.injEq] at e
    obtain ⟨rfl, -, rfl⟩ := e
    exact ⟨none, 0, rfl, hT, by omega, fun _ => rfl⟩
  · simp only [Value.slice.injEq] at e
    obtain ⟨rfl, -, rfl⟩ := e
    exact ⟨_, _, rfl, hT, hc, fun h => by cases h⟩

theorem tiksV_own {w : World} {base n : Nat} {v : Value} {L : List TK} (h : w.ownsRow base 39 6 v n (cellsK L)) : TiksV w v L := by
  have hn : n = L.length := by have := h.1; rw [cellsK_len] at this; omega
  subst hn
  have hc := fun g => h.cells (g := g)
  rcases h.2 with ⟨rfl, h0⟩ | ⟨g, cap, cur, rfl, -, -, hcap, -⟩
  · have : L = [] := List.eq_nil_of_length_eq_zero h0
    subst this
    exact ⟨none, 0, rfl, fun i p hi => by simp at hi, by simp, fun _ => rfl⟩
  · refine ⟨_, cap, rfl, fun i p hi => ⟨_, rfl, ?_⟩, hcap, fun h => by cases h⟩
    have e := fun j hj => cellsK_get L i p hi j hj
    have c := fun j u hu => hc g rfl (i * 6 + j) u hu
    refine ⟨?_, ?_, ?_, ?_, ?_, ?_⟩
    · have := c 0 _ (e 0 (by omega))
      simpa using this
    · rw [addr_off _ _ _ (by decide)]; exact c 1 _ (e 1 (by omega))
    · rw [addr_off _ _ _ (by decide)]; exact c 2 _ (e 2 (by omega))
    · rw [addr_off _ _ _ (by decide)]; exact c 3 _ (e 3 (by omega))
    · rw [addr_off _ _ _ (by decide)]; exact c 4 _ (e 4 (by omega))
    · rw [addr_off _ _ _ (by decide)]; exact c 5 _ (e 5 (by omega))

theorem intsV_own {w : World} {base n : Nat} {v : Value} {L : List Int} (h : w.ownsRow base 3 1 v n (cellsV L)) : IntsV w v L := by
  have hn : n = L.length := by have := h.1; rw [cellsV_len] at this; omega
  subst hn
  have hc := fun g => h.cells (g := g)
  rcases h.2 with ⟨rfl, h0⟩ | ⟨g, cap, cur, rfl, -, -, hcap, -⟩
  · have : L = [] := List.eq_nil_of_length_eq_zero h0
    subst this
    exact ⟨none, 0, rfl, fun i p hi => by simp at hi, by simp, fun _ => rfl⟩
  · exact ⟨_, cap, rfl, fun i p hi => ⟨_, rfl, hc g rfl i _ (by simp [cellsV, hi])⟩, hcap, fun h => by cases h⟩
end Go.Proofs.Ytlnmheooicancaa
