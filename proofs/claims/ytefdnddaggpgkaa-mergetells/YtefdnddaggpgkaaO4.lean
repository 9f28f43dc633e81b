/-
  A list of taps out of the row.
-/
import Derived.Test.YtefdnddaggpgkaaO3
namespace Go.Proofs.Ytefdnddaggpgkaa
open Go.RowKit
open Go.ChangeShapes Go.WideShapes Go.ChangeAt
variable {H : Type} {enc : TypeId × Value → H}

set_option maxRecDepth 100000 in
theorem open_tapk {W : World} {base : Nat} {sp : Nat → Bool} {v : Value} {d : DataW H} {p : List MemPlace} (hval : Value.okWide Try.prog W .any base 23 v) (h : DataW.Trod enc Try.prog W 0 sp true 23 v d p) :
    ∃ (o : Option Addr) (L : List TP) (c : Nat), v = .slice o L.length c ∧ TapsOk W o L c := by
  obtain ⟨o, len, cap, rfl⟩ := okWide_slice Try.underlying23 hval
  obtain ⟨fuel, hf⟩ := h
  obtain ⟨o', L, cap', e, h1⟩ := taps_ofV hf
  simp [Value.cells] at e
  obtain ⟨rfl, rfl, rfl⟩ := e
  exact ⟨o, L, cap, rfl, h1⟩
end Go.Proofs.Ytefdnddaggpgkaa
