/-
  'full', 'Add', 'Has' (package denied).
-/
import Derived.Test.YtcakfmpckbmdeacN5
namespace Go.Proofs.Ytcakfmpckbmdeac
open Go.RowKit

def fullD (v : Int) (L : List Int) : Bool := ((L.length : Int) == 12) || (v == 999)

theorem fullD_any (v : Int) (L : List Int) (o : Option Addr) (c : Nat) (w : World) :
    Calls Try.prog 57 #[dn v o L.length c] w fun e w' => e = .returned (.bool (fullD v L)) ∧ Below w.heap.size w w' := by
  unfold fullD
  cases h : ((L.length : Int) == 12)
  all_goals
    go_enter Try.func57, Try.ntmps57
    go_wp2
    go_ret
    exact ⟨by simp, (Below.refl _ _).alloc (Nat.le_refl _) _⟩

/-- what Add says -/
def addE (v : Int) (L : List Int) (id : Int) : Int := if unfD v L id = 0 then (if hasI L id = true then 6 else if fullD v L = true then 2 else 0) else unfD v L id

theorem addE_ways (v : Int) (L : List Int) (id : Int) : ((unfD v L id != 0) = true ∧ addE v L id = unfD v L id) ∨ (unfD v L id = 0 ∧ hasI L id = true ∧ addE v L id = 6) ∨ (unfD v L id = 0 ∧ hasI L id = false ∧ fullD v L = true ∧ addE v L id = 2) ∨ (unfD v L id = 0 ∧ hasI L id = false ∧ fullD v L = false ∧ addE v L id = 0) := by
  rw [addE]
  by_cases h : unfD v L id = 0
  · right
    cases hasI L id <;> cases fullD v L <;> simp [h]
  · left; simp [h]

theorem denV_none (w : World) : DenV w (dn 0 none 0 0) 0 [] := ⟨_, rfl, none, 0, rfl, fun i p h => by simp at h, by simp, fun _ => rfl⟩

theorem chkD_right {v : Int} {L : List Int} (h : chkD v L = 0) : 0 ≤ v ∧ v ≤ 999 ∧ L.length ≤ 12 ∧ errD 0 L = 0 ∧ (L.length : Int) ≤ v := by
  rcases chkD_ways v L with h1 | h1 | h1 | h1 | h1
  · omega
  · omega
  · exact absurd (h1.2.2.2.symm.trans h) h1.2.2.1
  · omega
  · have := (wi_iff _ _ _).1 h1.1
    exact ⟨this.1, this.2, by omega, h1.2.2.1, by omega⟩

theorem unfD_right {v : Int} {L : List Int} {id : Int} (h : unfD v L id = 0) : chkD v L = 0 ∧ wi id 1 9999 = true := by
  rcases unfD_ways v L id with ⟨h1, h2⟩ | ⟨h1, h2, h3⟩ | ⟨h1, h2, h3⟩
  · rw [h2] at h
    rw [h] at h1
    cases h1
  · omega
  · exact ⟨h1, h2⟩

set_option maxHeartbeats 3200000 in
theorem add_any (v id : Int) (L : List Int) (o : Option Addr) (cap : Nat) (w : World) (hL : IntsAt w o L) (hlen : L.length ≤ 9223372036854775807) (hcap : L.length ≤ cap) (hnone : o = none → cap = 0) :
    Calls Try.prog 16 #[dn v o L.length cap, .int .i64 id] w fun e w' =>
      (∃ u, e = .returned (.tuple #[u, .int .i64 (addE v L id)]) ∧ DenV w' u (if addE v L id = 0 then v + 1 else 0) (if addE v L id = 0 then addI L id else [])) ∧ Below w.heap.size w w' := by
  have HB := hide (((Blks.nil w).more (.cells #[.int .i64 v, .slice o L.length cap] 45) (by simp)).more (.cells #[.int .i64 0, .slice none 0 0] 45) (by simp))
  have HU := hide (fun W (h1 : IntsAt W o L) => denUnfit_any v L o cap id W h1 hlen)
  have HH := hide (fun W (h1 : IntsAt W o L) => denHas_any v id L o cap W h1 hlen)
  have HF := hide (fun W => fullD_any v L o cap W)
  have HW := hide (fun W (h1 : IntsAt W o L) (h2 : unfD v L id = 0) => with_any v id L o cap W h1 (chkD_right (unfD_right h2).1).2.2.1 hcap hnone (chkD_right (unfD_right h2).1).1 (chkD_right (unfD_right h2).1).2.1)
  have HL := hide hL
  have hp := addE_ways v L id
  generalize addE v L id = E at *
  generalize unfD v L id = X at *
  generalize hasI L id = Y at *
  generalize fullD v L = Z at *
  generalize addI L id = M at *
  clear hL
  rcases hp with ⟨h1, rfl⟩ | ⟨rfl, rfl, rfl⟩ | ⟨rfl, rfl, rfl, rfl⟩ | ⟨rfl, rfl, rfl, rfl⟩
  all_goals first
    | rw [if_pos rfl, if_pos rfl]
    | rw [if_neg (show ¬ (6 : Int) = 0 by decide), if_neg (show ¬ (6 : Int) = 0 by decide)]
    | rw [if_neg (show ¬ (2 : Int) = 0 by decide), if_neg (show ¬ (2 : Int) = 0 by decide)]
    | (have hE : ¬ E = 0 := by simpa using h1
       rw [if_neg hE, if_neg hE]
       clear hE)
  all_goals
    go_enter Try.func16, Try.ntmps16
    go_wp2_with fail
    refine (HU.out _ (HL.out.below HB.out.2.2)).mono ?_
    rintro e w1 ⟨rfl, hb1⟩
    have HB1 := hide (HB.out.on hb1)
    clear hb1 HB
    have x0 := HB1.out.cell 0 0 w.heap.size _ _ _ rfl rfl rfl
    have x1 := HB1.out.cell 0 1 w.heap.size _ _ _ rfl rfl rfl
    have r0 := HB1.out.cell 1 0 (w.heap.size + 1) _ _ _ rfl rfl rfl
    have r1 := HB1.out.cell 1 1 (w.heap.size + 1) _ _ _ rfl rfl rfl
    have s0 := HB1.out.frozen 1 0 (w.heap.size + 1) _ _ rfl rfl
    have s1 := HB1.out.frozen 1 1 (w.heap.size + 1) _ _ rfl rfl
    go_wp2_with fail
  · refine bodyPost_ret (v := .tuple #[dn 0 none 0 0, .int .i64 E]) (by simp [results, Try.results16, go_sem, *]) rfl ⟨⟨_, rfl, ?_⟩, ?_⟩
    · exact denV_none _
    · repeat (first | with_reducible refine Below.setCell ?_ (by simp; try omega) _ | exact HB1.out.2.2)
  all_goals
    have HK := hide ((Blks.nil w1).more (.cells #[.int .i64 v, .slice o L.length cap] 94) (by simp))
    refine (HH.out _ (HL.out.below (HB1.out.on HK.out.2.2).2.2)).mono ?_
    rintro e w2 ⟨rfl, hb2⟩
    have HK2 := hide (HK.out.on hb2)
    have HB2 := hide (HB1.out.on HK2.out.2.2)
    clear hb2 HB1 HK x0 x1 r0 r1 s0 s1
    have x0 := HK2.out.cell 0 0 w1.heap.size _ _ _ rfl rfl rfl
    have x1 := HK2.out.cell 0 1 w1.heap.size _ _ _ rfl rfl rfl
    have r0 := HB2.out.cell 1 0 (w.heap.size + 1) _ _ _ rfl rfl rfl
    have r1 := HB2.out.cell 1 1 (w.heap.size + 1) _ _ _ rfl rfl rfl
    have s0 := HB2.out.frozen 1 0 (w.heap.size + 1) _ _ rfl rfl
    have s1 := HB2.out.frozen 1 1 (w.heap.size + 1) _ _ rfl rfl
    go_wp2_with fail
  · refine bodyPost_ret (v := .tuple #[dn 0 none 0 0, .int .i64 6]) (by simp [results, Try.results16, go_sem, *]) rfl ⟨⟨_, rfl, ?_⟩, ?_⟩
    · exact denV_none _
    · repeat (first | with_reducible refine Below.setCell ?_ (by simp; try omega) _ | exact HB2.out.2.2)
  all_goals
    refine (HF.out _).mono ?_
    rintro e w3 ⟨rfl, hb3⟩
    have HK3 := hide (HK2.out.on hb3)
    have HB3 := hide (HB2.out.on hb3)
    clear hb3 HB2 HK2 x0 x1 r0 r1 s0 s1
    have x0 := HK3.out.cell 0 0 w1.heap.size _ _ _ rfl rfl rfl
    have x1 := HK3.out.cell 0 1 w1.heap.size _ _ _ rfl rfl rfl
    have r0 := HB3.out.cell 1 0 (w.heap.size + 1) _ _ _ rfl rfl rfl
    have r1 := HB3.out.cell 1 1 (w.heap.size + 1) _ _ _ rfl rfl rfl
    have s0 := HB3.out.frozen 1 0 (w.heap.size + 1) _ _ rfl rfl
    have s1 := HB3.out.frozen 1 1 (w.heap.size + 1) _ _ rfl rfl
    go_wp2_with fail
  · refine bodyPost_ret (v := .tuple #[dn 0 none 0 0, .int .i64 2]) (by simp [results, Try.results16, go_sem, *]) rfl ⟨⟨_, rfl, ?_⟩, ?_⟩
    · exact denV_none _
    · repeat (first | with_reducible refine Below.setCell ?_ (by simp; try omega) _ | exact HB3.out.2.2)
  · refine (HW.out _ (HL.out.below HB3.out.2.2) trivial).mono ?_
    rintro e w4 ⟨⟨u, rfl, ⟨oa, ca, rfl, ha⟩, hf⟩, hb4⟩
    have HB4 := hide (HB3.out.on hb4)
    have hsz := HB3.out.2.1
    simp only [List.length_append, List.length_cons, List.length_nil] at hsz
    have HV := hide (And.intro (show IntsV w4 (.slice oa M.length ca) M from ⟨oa, ca, rfl, ha⟩) (hf.monoD (show w.heap.size + 1 + 1 ≤ w3.heap.size by omega)))
    clear hb4 HB3 HK3 x0 x1 r0 r1 s0 s1 ha hf hsz
    have r0 := HB4.out.cell 1 0 (w.heap.size + 1) _ _ _ rfl rfl rfl
    have r1 := HB4.out.cell 1 1 (w.heap.size + 1) _ _ _ rfl rfl rfl
    have s0 := HB4.out.frozen 1 0 (w.heap.size + 1) _ _ rfl rfl
    have s1 := HB4.out.frozen 1 1 (w.heap.size + 1) _ _ rfl rfl
    go_wp2_with fail
    refine bodyPost_ret (v := .tuple #[.agg #[.int .i64 (v + 1), .slice oa M.length ca], .int .i64 0]) (by simp [results, Try.results16, go_sem, *]) rfl ⟨⟨_, rfl, ⟨_, rfl, ?_⟩⟩, ?_⟩
    · exact (HV.out.1.setD HV.out.2 (p := ⟨w.heap.size + 1, 0, none⟩) (by simp) (.int .i64 (v + 1))).setD HV.out.2 (p := ⟨w.heap.size + 1, 1, none⟩) (by simp) (.slice oa M.length ca)
    · repeat (first | with_reducible refine Below.setCell ?_ (by simp; try omega) _ | exact HB4.out.2.2)

set_option maxHeartbeats 1600000 in
theorem has_any (v id : Int) (L : List Int) (o : Option Addr) (cap : Nat) (w : World) (hL : IntsAt w o L) (hlen : L.length ≤ 9223372036854775807) :
    Calls Try.prog 18 #[dn v o L.length cap, .int .i64 id] w fun e w' => e = .returned (.tuple #[.bool (decide (unfD v L id = 0) && hasI L id), .int .i64 (unfD v L id)]) ∧ Below w.heap.size w w' := by
  have HB := hide ((Blks.nil w).more (.cells #[.int .i64 v, .slice o L.length cap] 45) (by simp))
  have HU := hide (fun W (h1 : IntsAt W o L) => denUnfit_any v L o cap id W h1 hlen)
  have HH := hide (fun W (h1 : IntsAt W o L) => denHas_any v id L o cap W h1 hlen)
  have HL := hide hL
  generalize unfD v L id = X at *
  generalize hasI L id = Y at *
  clear hL
  by_cases hX : X = 0
  · subst hX
    simp only [decide_true, Bool.true_and]
    go_enter Try.func18, Try.ntmps18
    go_wp2_with fail
    refine (HU.out _ (HL.out.below HB.out.2.2)).mono ?_
    rintro e w1 ⟨rfl, hb1⟩
    have HB1 := hide (HB.out.on hb1)
    clear hb1 HB
    have x0 := HB1.out.cell 0 0 w.heap.size _ _ _ rfl rfl rfl
    have x1 := HB1.out.cell 0 1 w.heap.size _ _ _ rfl rfl rfl
    go_wp2_with fail
    refine (HH.out _ (HL.out.below HB1.out.2.2)).mono ?_
    rintro e w2 ⟨rfl, hb2⟩
    have HB2 := hide (HB1.out.on hb2)
    clear hb2 HB1 x0 x1
    go_wp2_with fail
    go_ret2
    exact ⟨rfl, HB2.out.2.2⟩
  · have h1 : (X != 0) = true := by simpa using hX
    rw [decide_eq_false hX, Bool.false_and]
    clear hX
    go_enter Try.func18, Try.ntmps18
    go_wp2_with fail
    refine (HU.out _ (HL.out.below HB.out.2.2)).mono ?_
    rintro e w1 ⟨rfl, hb1⟩
    have HB1 := hide (HB.out.on hb1)
    clear hb1 HB
    go_wp2_with fail
    go_ret2
    exact ⟨rfl, HB1.out.2.2⟩
end Go.Proofs.Ytcakfmpckbmdeac
