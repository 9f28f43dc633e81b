/-
  A ledger opened, out of the row.
-/
import Derived.Test.YtcakfmpckbmdeabO3
import Derived.Test.YtcakfmpckbmdeabW1
namespace Go.Proofs.Ytcakfmpckbmdeab
open Go.ChangeShapes Go.WideShapes Go.ChangeAt Go.RowKit Go.Deep

section
variable {H : Type} {enc : TypeId × Value → H}

set_option maxRecDepth 100000 in
theorem open_led {W : World} {base : Nat} {sp : Nat → Bool} {v : Value} {d : DataW H} {p : List MemPlace} (hval : Value.okWide Try.prog W .any base 43 v) (h : DataW.Trod enc Try.prog W 0 sp true 43 v d p) :
    ∃ (o1 o2 o3 : Option Addr) (T : List TK) (L : List TP) (V : List Int) (c1 c2 c3 : Nat), v = lg o1 o2 o3 T.length c1 L.length c2 V.length c3 ∧ LedV W (lg o1 o2 o3 T.length c1 L.length c2 V.length c3) T L V ∧ LensOk T L V := by
  obtain ⟨cs, rfl, hsz⟩ := okWide_struct Try.underlying43 hval
  rw [cells43] at hsz
  obtain ⟨l⟩ := cs
  obtain ⟨fuel, hf⟩ := h
  match l, hsz with
  | [d0, d1, d2], _ =>
  obtain ⟨xs, n, _, hx, hl, hlen, hfs⟩ := DataW.trod_struct Try.underlying43 hf
  match xs, hlen with
  | [y0, y1, y2], _ =>
  have g0 := hfs 0 _ rfl
  have g1 := hfs 1 _ rfl
  have g2 := hfs 2 _ rfl
  simp [Value.cells, cells30, cells40, cells41] at g0 g1 g2
  obtain ⟨o1, T, c1, e1, t1, t2, t3, t4⟩ := tiks_ofV g0
  obtain ⟨o2, L, c2, e2, l1, l2, l3, l4⟩ := taps_ofV g1
  obtain ⟨o3, V, c3, e3, v1, v2, v3, v4⟩ := ints_ofV g2
  simp only [List.cons.injEq, and_true] at e1 e2 e3
  subst e1 e2 e3
  exact ⟨o1, o2, o3, T, L, V, c1, c2, c3, rfl, ⟨_, _, _, rfl, ⟨o1, c1, rfl, t1, t3, t4⟩, ⟨o2, c2, rfl, l1, l3, l4⟩, ⟨o3, c3, rfl, v1, v3, v4⟩⟩, ⟨t2, l2, v2⟩⟩
end
end Go.Proofs.Ytcakfmpckbmdeab
