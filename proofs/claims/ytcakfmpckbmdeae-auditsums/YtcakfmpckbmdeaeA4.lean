/-
  What AuditMore says, of lists.
-/
import Derived.Test.YtcakfmpckbmdeaeA2
namespace Go.Proofs.Ytcakfmpckbmdeae
open Go.RowKit

theorem leftV_of {T : List TK} {P : List TP} {V : List Int} {id c : Int} (h : ridesV T P V id = (c, 0)) : leftV T P V id = (allR (tikOf T id).k (tikOf T id).r - c, 0) := by
  unfold leftV
  rw [h, if_pos rfl]

theorem gateV_of {T : List TK} {P : List TP} {V : List Int} {g : Int} (h : chkL T P V = 0) (hg : 0 ≤ g ∧ g ≤ 2) : gateV T P V g = (cnt (fun p => p.g == g) (P.zip V) 1, cnt (fun p => p.g == g) (P.zip V) 2, 0) := by
  unfold gateV
  rw [if_neg (by simp [h]), if_pos ((wi_iff _ _ _).2 hg)]

/-- what is left of a ticket behind a tap -/
theorem more_left {T : List TK} {P : List TP} {V : List Int} {p : TP} (h : (enterV T P V p).2 = 0) {x : TK} (hx : x ∈ T) :
    ∃ n m : Int, leftV T P V x.i = (n, 0) ∧ leftV T (P ++ [p]) (V ++ [(enterV T P V p).1]) x.i = (m, 0) ∧ -60 ≤ n ∧ n ≤ 60 ∧ m = n - if x.i = p.a ∧ (enterV T P V p).1 = 1 then 1 else 0 := by
  obtain ⟨cn, cn', e1, e2, hc, hcc, -⟩ := enter_rides h hx
  have h1 := (enter_right h).1
  have r4 := (chkL_right h1).2.2.2.1
  have ht := tikOf_at (rising_of r4) (hasT_mem hx)
  have hb := allR_bound (checked_of r4 _ (List.mem_of_getElem? ht.1))
  refine ⟨_, _, leftV_of e1, leftV_of e2, by omega, by omega, ?_⟩
  rw [hcc]
  split <;> omega

/-- what was at the gate behind a tap -/
theorem more_gate {T : List TK} {P : List TP} {V : List Int} {p : TP} (h : (enterV T P V p).2 = 0) :
    ∃ x y z u : Int, gateV T P V p.g = (x, y, 0) ∧ gateV T (P ++ [p]) (V ++ [(enterV T P V p).1]) p.g = (z, u, 0) ∧ 0 ≤ x ∧ x ≤ 60 ∧ 0 ≤ y ∧ y ≤ 60 ∧
      (((enterV T P V p).1 = 1 ∧ z = x + 1 ∧ u = y) ∨ ((enterV T P V p).1 = 2 ∧ z = x ∧ u = y + 1)) := by
  have h1 := (enter_right h).1
  have h2 := enter_chk h
  have hu := unf_has (enter_right h).2.1
  have hv := enter_verd h
  have hr := chkL_right h1
  have hg := (chkP_right (a := p.a) (g := p.g) (s := p.s) (m := p.m) (z := p.z) hu.1).2.1
  have b1 := cnt_bound (fun q => q.g == p.g) (P.zip V) 1
  have b2 := cnt_bound (fun q => q.g == p.g) (P.zip V) 2
  rw [List.length_zip] at b1 b2
  generalize (enterV T P V p).1 = v at *
  refine ⟨_, _, _, _, gateV_of h1 hg, gateV_of h2 hg, by omega, by omega, by omega, by omega, ?_⟩
  rw [zip_snoc hr.2.2.1, cnt_snoc, cnt_snoc]
  rcases hv with rfl | rfl
  · left; simp
  · right; simp

end Go.Proofs.Ytcakfmpckbmdeae
