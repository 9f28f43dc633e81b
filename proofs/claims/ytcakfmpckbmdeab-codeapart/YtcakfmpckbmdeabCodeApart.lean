/-
  Proved here: of any two tickets that Print prints without an error the codes are the same if and only if the tickets are, each is of fourteen signs, and with an error Print gives no sign. No condition beside those of the row.
-/
import Derived.Test.YtcakfmpckbmdeabB1
import Derived.Test.YtcakfmpckbmdeabT10
namespace Go.Proofs.Ytcakfmpckbmdeab.codeApart
open Go.ChangeShapes Go.WideShapes Go.ChangeAt Go.RowKit
open Go.ChangeMaps (open_string shut_string)

set_option maxRecDepth 100000 in
theorem lifted (os : Os) (started : os.Started) (H : Type) (enc : TypeId × Value → H) :
    ReturnsInHanded {} Try.checked os 3 .any (Rows.codeApartSpec.pre6 enc Try.prog Try.f3 Rows.codeApartRow.domain false) (Rows.codeApartSpec.post enc Try.prog Try.f3 false true false false) := by
  refine returnsInHanded_of_change (C := Try.checked) own started (by kernel_rfl) Try.func3
    (ChangeSpec.witness6 (enc := enc) (C := Try.checked) false ⟨#[], #[tk 0 0 0 0 0 0, tk 0 0 0 0 0 0], []⟩ 8 (by kernel_rfl) (by kernel_rfl) (by kernel_rfl) (by kernel_rfl)) ?_
  intro W base args ds gs before hval0 hW _ _
  have hval : ∀ (j : Nat) t v, Try.f3.params[j]? = some t → args[j]? = some v → Value.okWide Try.prog W .any base t v := hval0
  have hW' := hW
  obtain ⟨p, q, hA0, hV, rfl, _, _⟩ := hW
  have hA : DataW.TrodAll enc Try.prog W 0 (fun _ => true) true Try.f3.params.toList args.toList ds p := hA0
  rw [Try.params3] at hA hval
  obtain ⟨v0, vs0, d0, ds0, p0, q0, hargs, rfl, rfl, h0, r0⟩ := trodAll_cons hA
  obtain ⟨v1, vs1, d1, ds1, p1, q1, rfl, rfl, rfl, h1, r1⟩ := trodAll_cons r0
  obtain ⟨rfl, rfl, rfl⟩ := trodAll_nil r1
  obtain rfl : args = #[v0, v1] := by cases args; simp_all
  obtain ⟨rfl, rfl⟩ := trodVars_none hV
  obtain ⟨i, k, f, t, z, r, rfl, rfl, rfl, a0_0, a0_1, a0_2, a0_3, a0_4, a0_5⟩ := open_tk (hval 0 23 v0 rfl rfl) h0
  obtain ⟨i', k', f', t', z', r', rfl, rfl, rfl, a1_0, a1_1, a1_2, a1_3, a1_4, a1_5⟩ := open_tk (hval 1 23 v1 rfl rfl) h1
  clear hA0 hval0
  simp only [List.append_nil] at hW'
  refine (codeApart_walk i k f t z r i' k' f' t' z' r' W).mono fun e W' ⟨he, hb⟩ => ?_
  subst he
  exact ⟨_, rfl, post_of_below hW' (fun _ _ _ => trodAll_cons_mk (shut_bool Try.underlying4 _) trodAll_mk0)
    (fun _ => (trodAll_cons_mk (shut_tk a0_0 a0_1 a0_2 a0_3 a0_4 a0_5) (trodAll_cons_mk (shut_tk a1_0 a1_1 a1_2 a1_3 a1_4 a1_5) trodAll_mk0))) (fun _ => rfl) hb⟩

set_option maxRecDepth 100000 in
/-- THE STATEMENT -/
theorem proved : Rows.CodeApartSaid :=
  OpenClaim.holds_of_wide 3 Try.f3 rfl rfl rfl rfl rfl rfl rfl ⟨rfl, rfl, rfl, rfl, rfl⟩ rfl rfl rfl rfl rfl (by kernel_rfl) Try.func3 (by kernel_rfl)
    (of_decide_eq_true (by kernel_rfl)) (by unfold Func.isWrapper; first | (rw [if_pos (by decide +kernel)]; kernel_rfl) | (rw [if_neg (by decide +kernel)]; exact ⟨rfl, rfl⟩))
    (fun os started H enc _ => lifted os started H enc)
#print axioms proved
end Go.Proofs.Ytcakfmpckbmdeab.codeApart
