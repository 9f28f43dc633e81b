/-
  'full', 'Add', 'Has' (package denied).
-/
import Derived.Test.YtlnmheooicancaaN5
namespace Go.Proofs.Ytlnmheooicancaa
open Go.RowKit

def fullD (v : Int) (L : List Int) : Bool := ((L.length : Int) == 12) || (v == 999)

/-- what Add says -/
def addE (v : Int) (L : List Int) (id : Int) : Int := if unfD v L id = 0 then (if hasI L id = true then 6 else if fullD v L = true then 2 else 0) else unfD v L id

theorem addE_ways (v : Int) (L : List Int) (id : Int) : ((unfD v L id != 0) = true ∧ addE v L id = unfD v L id) ∨ (unfD v L id = 0 ∧ hasI L id = true ∧ addE v L id = 6) ∨ (unfD v L id = 0 ∧ hasI L id = false ∧ fullD v L = true ∧ addE v L id = 2) ∨ (unfD v L id = 0 ∧ hasI L id = false ∧ fullD v L = false ∧ addE v L id = 0) := by
  rw [addE]
  by_cases h : unfD v L id = 0
  · right
    cases hasI L id <;> cases fullD v L <;> simp [h]
  · left; simp [h]

theorem denV_none (w : World) : DenV w (dn 0 none 0 0) 0 [] := ⟨_, rfl, none, 0, rfl, fun i p h => by simp at h, by simp, fun _ => rfl⟩

theorem chkD_right {v : Int} {L : List Int} (h : chkD v L = 0) : 0 ≤ v ∧ v ≤ 999 ∧ L.length ≤ 12 ∧ errD 0 L = 0 ∧ (L.length : Int) ≤ v := by
  rcases chkD_ways v L with h1 | h1 | h1 | h1 | h1
  · omega
  · omega
  · exact absurd (h1.2.2.2.symm.trans h) h1.2.2.1
  · omega
  · have := (wi_iff _ _ _).1 h1.1
    exact ⟨this.1, this.2, by omega, h1.2.2.1, by omega⟩

theorem unfD_right {v : Int} {L : List Int} {id : Int} (h : unfD v L id = 0) : chkD v L = 0 ∧ wi id 1 9999 = true := by
  rcases unfD_ways v L id with ⟨h1, h2⟩ | ⟨h1, h2, h3⟩ | ⟨h1, h2, h3⟩
  · rw [h2] at h
    rw [h] at h1
    cases h1
  · omega
  · exact ⟨h1, h2⟩

set_option maxHeartbeats 1600000 in
theorem has_any (v id : Int) (L : List Int) (o : Option Addr) (cap : Nat) (w : World) (hL : IntsAt w o L) (hlen : L.length ≤ 9223372036854775807) :
    Calls Try.prog 34 #[dn v o L.length cap, .int .i64 id] w fun e w' => e = .returned (.tuple #[.bool (decide (unfD v L id = 0) && hasI L id), .int .i64 (unfD v L id)]) ∧ Below w.heap.size w w' := by
  have HB := hide ((Blks.nil w).more (.cells #[.int .i64 v, .slice o L.length cap] 25) (by simp))
  have HU := hide (fun W (h1 : IntsAt W o L) => denUnfit_any v L o cap id W h1 hlen)
  have HH := hide (fun W (h1 : IntsAt W o L) => denHas_any v id L o cap W h1 hlen)
  have HL := hide hL
  generalize unfD v L id = X at *
  generalize hasI L id = Y at *
  clear hL
  by_cases hX : X = 0
  · subst hX
    simp only [decide_true, Bool.true_and]
    go_enter Try.func34, Try.ntmps34
    go_wp2_with fail
    refine (HU.out _ (HL.out.below HB.out.2.2)).mono ?_
    rintro e w1 ⟨rfl, hb1⟩
    have HB1 := hide (HB.out.on hb1)
    clear hb1 HB
    have x0 := HB1.out.cell 0 0 w.heap.size _ _ _ rfl rfl rfl
    have x1 := HB1.out.cell 0 1 w.heap.size _ _ _ rfl rfl rfl
    go_wp2_with fail
    refine (HH.out _ (HL.out.below HB1.out.2.2)).mono ?_
    rintro e w2 ⟨rfl, hb2⟩
    have HB2 := hide (HB1.out.on hb2)
    clear hb2 HB1 x0 x1
    go_wp2_with fail
    go_ret2
    exact ⟨rfl, HB2.out.2.2⟩
  · have h1 : (X != 0) = true := by simpa using hX
    rw [decide_eq_false hX, Bool.false_and]
    clear hX
    go_enter Try.func34, Try.ntmps34
    go_wp2_with fail
    refine (HU.out _ (HL.out.below HB.out.2.2)).mono ?_
    rintro e w1 ⟨rfl, hb1⟩
    have HB1 := hide (HB.out.on hb1)
    clear hb1 HB
    go_wp2_with fail
    go_ret2
    exact ⟨rfl, HB1.out.2.2⟩
end Go.Proofs.Ytlnmheooicancaa
