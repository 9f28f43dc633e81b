/-
  How long a list of taps out of the row is.
-/
import Derived.Test.YtefdnddaggpgkaaO3
import Derived.SizedLaws
namespace Go.Proofs.Ytefdnddaggpgkaa
open Go.RowKit
open Go.ChangeShapes Go.WideShapes Go.ChangeAt Go.Deep
variable {H : Type} {enc : TypeId × Value → H}

set_option maxRecDepth 100000 in
theorem open_tapk {W : World} {base : Nat} {sp : Nat → Bool} {v : Value} {d : DataW H} {p : List MemPlace} (hval : Value.okWide Try.prog W .any base 23 v) (h : DataW.Trod enc Try.prog W 0 sp true 23 v d p) :
    ∃ (o : Option Addr) (L : List TP) (c : Nat), v = .slice o L.length c ∧ TapsOk W o L c := by
  obtain ⟨o, len, cap, rfl⟩ := okWide_slice Try.underlying23 hval
  obtain ⟨fuel, hf⟩ := h
  obtain ⟨o', L, cap', e, h1⟩ := taps_ofV hf
  simp [Value.cells] at e
  obtain ⟨rfl, rfl, rfl⟩ := e
  exact ⟨o, L, cap, rfl, h1⟩
theorem bytesTap : Try.prog.bytesOf 28 = 40 := by kernel_rfl

set_option maxRecDepth 100000 in
theorem tapz_len {W : World} {sp : Nat → Bool} {o : Option Addr} {n c : Nat} {d : DataW H} {p : List MemPlace} (h : DataW.Trod enc Try.prog W 0 sp true 23 (.slice o n c) d p) :
    n = 0 ∨ ∃ elems spare, d = .slice elems spare ∧ elems.length = n := by
  obtain ⟨fuel, hf⟩ := h
  rcases open_slice Try.underlying23 hf with ⟨e, -⟩ | ⟨a, len, cap, m, n', D, Pl, e, -, -, -, -, hx, -⟩
  · simp [Value.cells] at e
    exact Or.inl e.2.1
  · simp [Value.cells] at e
    obtain ⟨-, rfl, -⟩ := e
    simp only [Prod.mk.injEq] at hx
    obtain ⟨rfl, -⟩ := hx
    exact Or.inr ⟨_, _, rfl, by simp⟩

set_option maxRecDepth 100000 in
theorem tapz_bytes {W : World} {sp : Nat → Bool} {o : Option Addr} {n c : Nat} {d : DataW H} {p : List MemPlace} {ts : List TypeId} {ds : List (DataW H)} {j : Nat} (h : DataW.Trod enc Try.prog W 0 sp true 23 (.slice o n c) d p)
    (hsz : (DataW.weightsEach Try.prog ts ds).all (· ≤ reachBytes) = true) (ht : ts[j]? = some 23) (hd : ds[j]? = some d) : n * 40 ≤ 140737488355328 := by
  rcases tapz_len h with h | ⟨elems, spare, rfl, he⟩
  · omega
  · have h2 := sized_slice hsz ht hd Try.underlying23
    rw [bytesTap, he] at h2
    simp only [reachBytes] at h2
    omega
end Go.Proofs.Ytefdnddaggpgkaa
