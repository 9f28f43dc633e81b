/-
  'SameDenied' (package leeboardref) of the same ones; 'deniedBegun' (package leeboardlaw).
-/
import Derived.Test.YtlnmheooicancaaN8
import Derived.Test.YtlnmheooicancaaQ1
namespace Go.Proofs.Ytlnmheooicancaa
open Go.RowKit

theorem intsAt_two {w : World} {b : Nat} {x y : Int} (h0 : w.cell? ⟨b, 0, none⟩ = some (.int .i64 x)) (h1 : w.cell? ⟨b, 1, none⟩ = some (.int .i64 y)) : IntsAt w (some ⟨b, 0, none⟩) [x, y] := by
  intro i v hv
  match i, hv with
  | 0, hv =>
    simp at hv
    subst hv
    exact ⟨_, rfl, by simpa [Addr.add] using h0⟩
  | 1, hv =>
    simp at hv
    subst hv
    exact ⟨_, rfl, by simpa [Addr.add] using h1⟩
  | i + 2, hv => simp at hv

end Go.Proofs.Ytlnmheooicancaa
