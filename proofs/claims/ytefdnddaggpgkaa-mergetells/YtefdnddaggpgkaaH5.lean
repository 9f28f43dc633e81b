/-
  'append' of a list of taps to a list that one owns, operation by operation.
-/
import Derived.Test.YtefdnddaggpgkaaH4
import Derived.Test.YtefdnddaggpgkaaK1
import Derived.Test.YtefdnddaggpgkaaL3
namespace Go.Proofs.Ytefdnddaggpgkaa
open Go.RowKit

theorem wpList_append_taps {ops : Array Oper} {rest : List Oper} {o : Oper} {a : Act} {Q : Exit → Act → World → Prop} {w : World} (hgd : o.guard = none) (s x : Operand)
    (ho : o.op = .call { callee := .builtin .append, args := #[s, x], argTypes := #[23, 23] })
    (base : Nat) (v : Value) (R : List TP) (hs : a.eval s = v) (hown : w.ownsRow base 28 5 v R.length (cellsP R))
    (ox : Option Addr) (c : Nat) (L : List TP) (hx : a.eval x = .slice ox L.length c) (hL : TapsV w (.slice ox L.length c) L) (hb : (R.length + L.length) * 40 ≤ 140737488355328) (hbase : base ≤ w.heap.size)
    (h : ∀ v' w', w'.ownsRow base 28 5 v' (R ++ L).length (cellsP (R ++ L)) → w.grownBy w' v.ownBlock → wpList Try.prog ops Q rest (a.put o.dst v') w') : wpList Try.prog ops Q (o :: rest) a w := by
  obtain ⟨i0, hi, hz0, hz1, hz2⟩ := info_parts info32
  obtain ⟨o', c', e, hat, hlc, hn⟩ := hL
  simp only [Value.slice.injEq] at e
  obtain ⟨rfl, -, rfl⟩ := e
  refine wpList_plain hgd fun _ hK => wp_append_row s x 23 ho base 28 i0 _ 5 40 Try.underlying23 hi hz0 hz1 hz2 rfl (by decide) v R.length (cellsP R) hs hown ox L.length c (cellsP L) hx (cellsP_len L) ?_ (oneP L) ?_ (by unfold maxLen; omega) hb hbase fun v' w' h2 h3 => hK _ _ (h v' w' ?_ h3)
  · intro ad had
    subst had
    exact taps_cells hat
  · intro hno
    subst hno
    refine ⟨?_, hn rfl⟩
    have := hn rfl
    omega
  · rw [cellsP_app, List.length_append]
    exact h2
end Go.Proofs.Ytefdnddaggpgkaa
