/-
  Proved here: for every gate, list of tickets and list of times: tickets that are tapped one by one, at the times, at a gate that is right: of those that it lets through none but a Day is let through twice, each takes one of what is left and never more than there was, the gate stays right, the tap has the next Seq, the gate's zone, a time within the budget's, its ticket is not denied, and the gate's list has just that tap more. No condition beside those of the row.
-/
import Derived.Test.YtlnmheooicancaaJ14
import Derived.Test.YtlnmheooicancaaO3
import Derived.Test.YtlnmheooicancaaO1
namespace Go.Proofs.Ytlnmheooicancaa.gateBounds
open Go.ChangeShapes Go.WideShapes Go.ChangeAt Go.RowKit

set_option maxRecDepth 100000 in
theorem lifted (os : Os) (started : os.Started) (H : Type) (enc : TypeId × Value → H) :
    ReturnsInHanded {} Try.checked os 3 .any (Rows.gateBoundsSpec.pre6 enc Try.prog Try.f3 Rows.gateBoundsRow.domain false) (Rows.gateBoundsSpec.post enc Try.prog Try.f3 false true false false) := by
  refine returnsInHanded_of_change (C := Try.checked) own started (by kernel_rfl) Try.func3
    (ChangeSpec.witness6 (enc := enc) (C := Try.checked) false ⟨#[], #[gtV 0 0 0 none 0 0 0 none 0 0 0 0, .slice none 0 0, .slice none 0 0], []⟩ 8 (by kernel_rfl) (by kernel_rfl) (by kernel_rfl) (by kernel_rfl)) ?_
  intro W base args ds gs before hval0 hW _ _
  have hval : ∀ (j : Nat) t v, Try.f3.params[j]? = some t → args[j]? = some v → Value.okWide Try.prog W .any base t v := hval0
  have hW' := hW
  have hlt := hW.lt
  obtain ⟨p, q, hA0, hV, rfl, _, _⟩ := hW
  obtain ⟨rfl, rfl⟩ := trodVars_none hV
  simp only [List.append_nil] at hW' hlt
  have hA : DataW.TrodAll enc Try.prog W 0 (fun _ => true) true Try.f3.params.toList args.toList ds p := hA0
  have hA' := hA
  rw [Try.params3] at hA hval
  obtain ⟨v0, vs0, d0, ds0, p0, q0, hargs, rfl, rfl, h0, hr0⟩ := trodAll_cons hA
  obtain ⟨v1, vs1, d1, ds1, p1, q1, rfl, rfl, rfl, h1, hr1⟩ := trodAll_cons hr0
  obtain ⟨v2, vs2, d2, ds2, p2, q2, rfl, rfl, rfl, h2, hr2⟩ := trodAll_cons hr1
  obtain ⟨rfl, rfl, rfl⟩ := trodAll_nil hr2
  obtain rfl : args = #[v0, v1, v2] := by cases args; simp_all
  obtain ⟨gi0, gz0, gs0, goa0, gA0, gca0, gv0, god0, gD0, gcd0, gl0, gu0, rfl, hga0, hgd0⟩ := open_gate (hval 0 29 v0 rfl rfl) h0
  obtain ⟨lo1, lL1, lc1, rfl, hl1⟩ := open_tiks (hval 1 30 v1 rfl rfl) h1
  obtain ⟨lo2, lL2, lc2, rfl, hl2⟩ := open_ints (hval 2 23 v2 rfl rfl) h2
  clear hA0 hval0
  refine (gateBounds_walk gi0 gz0 gs0 goa0 gA0 gca0 gv0 god0 gD0 gcd0 gl0 gu0 lo1 lL1 lc1 lo2 lL2 lc2 W hga0 hgd0 hl1 hl2).mono fun e W' ⟨he, hb⟩ => ?_
  subst he
  exact ⟨_, rfl, _, _, _, [], _, [], hW', trodAll_cons_mk (shut_bool Try.underlying4 _) trodAll_mk0, args_kept laid hb (by kernel_rfl) hA' hlt, rfl, hb.frame _, fun h => by cases h⟩

/-- THE STATEMENT -/
theorem proved : Rows.GateBoundsSaid :=
  OpenClaim.holds_of_wide 3 Try.f3 rfl rfl rfl rfl rfl rfl rfl ⟨rfl, rfl, rfl, rfl, rfl⟩ rfl rfl rfl rfl rfl (by kernel_rfl) Try.func3 (by kernel_rfl)
    (of_decide_eq_true (by kernel_rfl)) (by unfold Func.isWrapper; first | (rw [if_pos (by decide +kernel)]; kernel_rfl) | (rw [if_neg (by decide +kernel)]; exact ⟨rfl, rfl⟩))
    (fun os started H enc _ => lifted os started H enc)
#print axioms proved
end Go.Proofs.Ytlnmheooicancaa.gateBounds
