/-
  'Newer' (package denied).
-/
import Derived.Test.YtlnmheooicancaaN6
namespace Go.Proofs.Ytlnmheooicancaa
open Go.RowKit

theorem cell_set_ne {w : World} {p q : Addr} {u v : Value} (hne : p.block ≠ q.block) (h : w.cell? q = some v) : (w.setCell p u).cell? q = some v := by
  rw [World.cell?_setCell_other]
  · exact h
  · intro e
    exact hne (by rw [e])

/-- what Newer says -/
def newE (va : Int) (La : List Int) (vb : Int) (Lb : List Int) : Int := if chkD va La = 0 then chkD vb Lb else chkD va La

theorem wrongE_two (va vb : Int) (La Lb : List Int) (oa ob : Option Addr) (ca cb : Nat) : wrongE [⟨va, La, oa, ca⟩, ⟨vb, Lb, ob, cb⟩] = newE va La vb Lb := by
  rw [wrongE, wrongE_one, newE]

theorem newE_right {va vb : Int} {La Lb : List Int} (h : newE va La vb Lb = 0) : chkD va La = 0 ∧ chkD vb Lb = 0 := by
  rw [newE] at h
  split at h
  · rename_i h1; exact ⟨h1, h⟩
  · rename_i h1; exact absurd h h1

set_option maxHeartbeats 3200000 in
theorem newerF_any (va vb : Int) (La Lb : List Int) (oa ob : Option Addr) (ca cb : Nat) (w : World) (hLa : IntsAt w oa La) (hLb : IntsAt w ob Lb) (hla : La.length ≤ 9223372036854775807) (hlb : Lb.length ≤ 9223372036854775807) :
    Calls Try.prog 22 #[dn va oa La.length ca, dn vb ob Lb.length cb] w fun e w' =>
      (∃ u, e = .returned (.tuple #[.agg #[.int .i64 (if newE va La vb Lb = 0 then (if va < vb then vb else va) else 0), u], .int .i64 (newE va La vb Lb)]) ∧ IntsV w' u (if newE va La vb Lb = 0 then (if va < vb then Lb else La) else []) ∧ Fresh w.heap.size u) ∧ Below w.heap.size w w' := by
  have HB := hide ((((Blks.nil w).more (.cells #[.int .i64 va, .slice oa La.length ca] 25) (by simp)).more (.cells #[.int .i64 vb, .slice ob Lb.length cb] 25) (by simp)).more (.cells #[.int .i64 0, .slice none 0 0] 25) (by simp))
  have HW := hide (fun W B (h : DensAt W B [⟨va, La, oa, ca⟩, ⟨vb, Lb, ob, cb⟩]) => denWrong_any [⟨va, La, oa, ca⟩, ⟨vb, Lb, ob, cb⟩] B 2 W h (by simp))
  rw [wrongE_two] at HW
  have HR : Hid (newE va La vb Lb = 0 → La.length ≤ 12 ∧ Lb.length ≤ 12) := fun h => ⟨(chkD_right (newE_right h).1).2.2.1, (chkD_right (newE_right h).2).2.2.1⟩
  have HLa := hide hLa
  have HLb := hide hLb
  clear hLa hLb
  generalize newE va La vb Lb = E at *
  by_cases hE : E = 0
  · subst hE
    rw [if_pos rfl, if_pos rfl]
    have hlens := HR.out rfl
    by_cases hlt : va < vb
    · rw [if_pos hlt, if_pos hlt]
      go_enter Try.func22, Try.ntmps22
      go_wp2_with fail
      have HC := hide ((Blks.nil _).more (w := ((w.alloc (.cells #[.int .i64 va, .slice oa La.length ca] 25)).alloc (.cells #[.int .i64 vb, .slice ob Lb.length cb] 25)).alloc (.cells #[.int .i64 0, .slice none 0 0] 25)) (.cells #[.int .i64 va, .slice oa La.length ca, .int .i64 vb, .slice ob Lb.length cb] 25) (by simp))
      have HB1 := hide (HB.out.on HC.out.2.2)
      refine (HW.out _ _ (densAt_two _ va vb La Lb oa ob ca cb _ _ (by simpa using HC.out.1 0 _ rfl) (HLa.out.below HB1.out.2.2) hla (HLb.out.below HB1.out.2.2) hlb)).mono ?_
      rintro e w1 ⟨rfl, hb1⟩
      have HB2 := hide (HB1.out.on hb1)
      clear hb1 HB HB1 HC
      have x0 := HB2.out.cell 0 0 w.heap.size _ _ _ rfl rfl rfl
      have x1 := HB2.out.cell 0 1 w.heap.size _ _ _ rfl rfl rfl
      have y0 := HB2.out.cell 1 0 (w.heap.size + 1) _ _ _ rfl rfl rfl
      have y1 := HB2.out.cell 1 1 (w.heap.size + 1) _ _ _ rfl rfl rfl
      have hsz := HB2.out.2.1
      simp only [List.length_append, List.length_cons, List.length_nil] at hsz
      have hq0 : w.heap.size < w1.heap.size := by omega
      have hq1 : w.heap.size + 1 < w1.heap.size := by omega
      go_wp2_with fail
      have hbk := (Below.refl w1.heap.size w1).alloc (Nat.le_refl _) (.cells #[.int .i64 vb, .slice ob Lb.length cb] 72)
      have HB3 := hide (HB2.out.on hbk)
      have HB4 := HB3
      have k0 : (w1.alloc (.cells #[.int .i64 vb, .slice ob Lb.length cb] 72)).cell? ⟨w1.heap.size, 0, none⟩ = some (.int .i64 vb) := by simp [go_sem]
      have k1 : (w1.alloc (.cells #[.int .i64 vb, .slice ob Lb.length cb] 72)).cell? ⟨w1.heap.size, 1, none⟩ = some (.slice ob Lb.length cb) := by simp [go_sem]
      have HSk : Hid (w1.heap.size < (w1.alloc (.cells #[.int .i64 vb, .slice ob Lb.length cb] 72)).heap.size) := hide (by simp)
      clear HB2 HB3 hbk x0 x1 y0 y1
      generalize w1.alloc (.cells #[.int .i64 vb, .slice ob Lb.length cb] 72) = w2 at *
      refine wp_region_reads (fun w' => Blks w w' ([] ++ [.cells #[.int .i64 va, .slice oa La.length ca] 25] ++ [.cells #[.int .i64 vb, .slice ob Lb.length cb] 25]) ∧ w'.cell? ⟨w1.heap.size, 0, none⟩ = some (.int .i64 vb) ∧ w'.cell? ⟨w1.heap.size, 1, none⟩ = some (.slice ob Lb.length cb)) [0, 1, 2, 3, 4, 5] 4 (by rfl) (by kernel_rfl) (by kernel_rfl) (by kernel_rfl) (fun c d v a w h => by cases d <;> exact h) ?_ ?_
      · exact ⟨(HB4.out.on (Below.refl _ _).drew).sub, k0, k1⟩
      refine wpPureH_step (.pointer (some ⟨w1.heap.size, 0, none⟩)) rfl rfl (fun w' hS => ?_) ?_
      · obtain ⟨-, z0, z1⟩ := hS
        go_simp
      refine wpPureH_step (.pointer (some ⟨w1.heap.size, 0, none⟩)) rfl rfl (fun w' hS => ?_) ?_
      · obtain ⟨-, z0, z1⟩ := hS
        go_simp
      refine wpPureH_step (.int .i64 vb) rfl rfl (fun w' hS => ?_) ?_
      · obtain ⟨-, z0, z1⟩ := hS
        go_simp
      refine wpPureH_step (.pointer (some ⟨w1.heap.size, 0, none⟩)) rfl rfl (fun w' hS => ?_) ?_
      · obtain ⟨-, z0, z1⟩ := hS
        go_simp
      refine wpPureH_step (.pointer (some ⟨w1.heap.size, 1, none⟩)) rfl rfl (fun w' hS => ?_) ?_
      · obtain ⟨-, z0, z1⟩ := hS
        go_simp
      refine wpPureH_step (.slice ob Lb.length cb) rfl rfl (fun w' hS => ?_) ?_
      · obtain ⟨-, z0, z1⟩ := hS
        go_simp
      refine wpPureH_nil ?_
      have HBa := hide (HB4.out.on ((Below.refl w2.heap.size w2).drew))
      have ka0 : w2.drew.cell? ⟨w1.heap.size, 0, none⟩ = some (.int .i64 vb) := k0
      have ka1 : w2.drew.cell? ⟨w1.heap.size, 1, none⟩ = some (.slice ob Lb.length cb) := k1
      clear HB4 k0 k1 HSk
      generalize w2.drew = wa at *
      refine one_readyH (i := 6) (by kernel_rfl) rfl rfl (fun K hK => ?_)
      go_simp
      refine (cloneV_any Lb ob cb wa (HLb.out.below HBa.out.2.2) (by omega)).mono ?_
      rintro e wd ⟨⟨v1, rfl, ⟨oc, cc, rfl, ha⟩, hf1⟩, hbd⟩
      have hsz := HBa.out.2.1
      simp only [List.length_append, List.length_cons, List.length_nil] at hsz
      have HV1 := hide (And.intro (show IntsV wd (.slice oc Lb.length cc) Lb from ⟨oc, cc, rfl, ha⟩) (hf1.monoD (show w.heap.size + 1 + 1 + 1 ≤ wa.heap.size by omega)))
      have HBd := hide (HBa.out.on hbd)
      have kb0 : wd.cell? ⟨w1.heap.size, 0, none⟩ = some (.int .i64 vb) := by rw [hbd.cell (World.block_lt_of_cell? wa _ ka0)]; exact ka0
      have kb1 : wd.cell? ⟨w1.heap.size, 1, none⟩ = some (.slice ob Lb.length cb) := by rw [hbd.cell (World.block_lt_of_cell? wa _ ka1)]; exact ka1
      clear ha hf1 hbd HBa hsz ka0 ka1
      refine hK _ _ ⟨HBd.out.sub, kb0, kb1⟩ ?_
      clear hK K
      refine one_readyH (i := 7) (by kernel_rfl) rfl rfl (fun K hK => ?_)
      go_simp
      refine hK _ _ ⟨HBd.out.sub, kb0, kb1⟩ ?_
      clear hK K
      have r0 := HBd.out.cell 2 0 (w.heap.size + 1 + 1) _ _ _ rfl rfl rfl
      have r1 := HBd.out.cell 2 1 (w.heap.size + 1 + 1) _ _ _ rfl rfl rfl
      have s0 := HBd.out.frozen 2 0 (w.heap.size + 1 + 1) _ _ rfl rfl
      have s1 := HBd.out.frozen 2 1 (w.heap.size + 1 + 1) _ _ rfl rfl
      refine one_readyH (i := 8) (by kernel_rfl) rfl rfl (fun K hK => ?_)
      go_simp
      have HKg := hide ((HBd.out.sub.set ⟨w.heap.size + 1 + 1, 0, none⟩ (by simp) (.int .i64 vb)).set ⟨w.heap.size + 1 + 1, 1, none⟩ (by simp) (.slice oc Lb.length cc))
      have g0 : ((wd.setCell ⟨w.heap.size + 1 + 1, 0, none⟩ (.int .i64 vb)).setCell ⟨w.heap.size + 1 + 1, 1, none⟩ (.slice oc Lb.length cc)).cell? ⟨w.heap.size + 1 + 1, 0, none⟩ = some (.int .i64 vb) := by simp [go_sem, r0]
      have g1 : ((wd.setCell ⟨w.heap.size + 1 + 1, 0, none⟩ (.int .i64 vb)).setCell ⟨w.heap.size + 1 + 1, 1, none⟩ (.slice oc Lb.length cc)).cell? ⟨w.heap.size + 1 + 1, 1, none⟩ = some (.slice oc Lb.length cc) := by simp [go_sem, r1]
      have kc0 := cell_set_ne (p := ⟨w.heap.size + 1 + 1, 1, none⟩) (u := .slice oc Lb.length cc) (by simp; omega) (cell_set_ne (p := ⟨w.heap.size + 1 + 1, 0, none⟩) (u := .int .i64 vb) (by simp; omega) kb0)
      have kc1 := cell_set_ne (p := ⟨w.heap.size + 1 + 1, 1, none⟩) (u := .slice oc Lb.length cc) (by simp; omega) (cell_set_ne (p := ⟨w.heap.size + 1 + 1, 0, none⟩) (u := .int .i64 vb) (by simp; omega) kb1)
      have HVg := hide ((HV1.out.1.setD HV1.out.2 (p := ⟨w.heap.size + 1 + 1, 0, none⟩) (by simp) (.int .i64 vb)).setD HV1.out.2 (p := ⟨w.heap.size + 1 + 1, 1, none⟩) (by simp) (.slice oc Lb.length cc))
      have HFg := hide (HV1.out.2.monoD (show w.heap.size ≤ w.heap.size + 1 + 1 + 1 by omega))
      refine hK _ _ ⟨HKg.out, kc0, kc1⟩ ?_
      clear hK K HV1 HBd r0 r1 s0 s1 kb0 kb1
      generalize (wd.setCell ⟨w.heap.size + 1 + 1, 0, none⟩ (.int .i64 vb)).setCell ⟨w.heap.size + 1 + 1, 1, none⟩ (.slice oc Lb.length cc) = wg at *
      refine one_readyH (i := 9) (by kernel_rfl) rfl rfl (fun K hK => ?_)
      go_simp
      refine hK _ _ ⟨HKg.out, kc0, kc1⟩ ?_
      clear hK K kc0 kc1
      refine wpAnyH_done (by kernel_rfl) ?_ _
      go_wp2_with fail
      refine bodyPost_ret (v := .tuple #[.agg #[.int .i64 vb, .slice oc Lb.length cc], .int .i64 0]) (by simp [results, Try.results22, go_sem, g0, g1]) rfl ⟨⟨_, rfl, HVg.out, HFg.out⟩, HKg.out.2.2⟩
    · rw [if_neg hlt, if_neg hlt]
      go_enter Try.func22, Try.ntmps22
      go_wp2_with fail
      have HC := hide ((Blks.nil _).more (w := ((w.alloc (.cells #[.int .i64 va, .slice oa La.length ca] 25)).alloc (.cells #[.int .i64 vb, .slice ob Lb.length cb] 25)).alloc (.cells #[.int .i64 0, .slice none 0 0] 25)) (.cells #[.int .i64 va, .slice oa La.length ca, .int .i64 vb, .slice ob Lb.length cb] 25) (by simp))
      have HB1 := hide (HB.out.on HC.out.2.2)
      refine (HW.out _ _ (densAt_two _ va vb La Lb oa ob ca cb _ _ (by simpa using HC.out.1 0 _ rfl) (HLa.out.below HB1.out.2.2) hla (HLb.out.below HB1.out.2.2) hlb)).mono ?_
      rintro e w1 ⟨rfl, hb1⟩
      have HB2 := hide (HB1.out.on hb1)
      clear hb1 HB HB1 HC
      have x0 := HB2.out.cell 0 0 w.heap.size _ _ _ rfl rfl rfl
      have x1 := HB2.out.cell 0 1 w.heap.size _ _ _ rfl rfl rfl
      have y0 := HB2.out.cell 1 0 (w.heap.size + 1) _ _ _ rfl rfl rfl
      have y1 := HB2.out.cell 1 1 (w.heap.size + 1) _ _ _ rfl rfl rfl
      have hsz := HB2.out.2.1
      simp only [List.length_append, List.length_cons, List.length_nil] at hsz
      have hq0 : w.heap.size < w1.heap.size := by omega
      have hq1 : w.heap.size + 1 < w1.heap.size := by omega
      go_wp2_with fail
      have hbk := (Below.refl w1.heap.size w1).alloc (Nat.le_refl _) (.cells #[.int .i64 va, .slice oa La.length ca] 72)
      have HB3 := hide (HB2.out.on hbk)
      have HB4 := HB3
      have k0 : (w1.alloc (.cells #[.int .i64 va, .slice oa La.length ca] 72)).cell? ⟨w1.heap.size, 0, none⟩ = some (.int .i64 va) := by simp [go_sem]
      have k1 : (w1.alloc (.cells #[.int .i64 va, .slice oa La.length ca] 72)).cell? ⟨w1.heap.size, 1, none⟩ = some (.slice oa La.length ca) := by simp [go_sem]
      have HSk : Hid (w1.heap.size < (w1.alloc (.cells #[.int .i64 va, .slice oa La.length ca] 72)).heap.size) := hide (by simp)
      clear HB2 HB3 hbk x0 x1 y0 y1
      generalize w1.alloc (.cells #[.int .i64 va, .slice oa La.length ca] 72) = w2 at *
      refine wp_region_reads (fun w' => Blks w w' ([] ++ [.cells #[.int .i64 va, .slice oa La.length ca] 25] ++ [.cells #[.int .i64 vb, .slice ob Lb.length cb] 25]) ∧ w'.cell? ⟨w1.heap.size, 0, none⟩ = some (.int .i64 va) ∧ w'.cell? ⟨w1.heap.size, 1, none⟩ = some (.slice oa La.length ca)) [0, 1, 2, 3, 4, 5] 4 (by rfl) (by kernel_rfl) (by kernel_rfl) (by kernel_rfl) (fun c d v a w h => by cases d <;> exact h) ?_ ?_
      · exact ⟨(HB4.out.on (Below.refl _ _).drew).sub, k0, k1⟩
      refine wpPureH_step (.pointer (some ⟨w1.heap.size, 0, none⟩)) rfl rfl (fun w' hS => ?_) ?_
      · obtain ⟨-, z0, z1⟩ := hS
        go_simp
      refine wpPureH_step (.pointer (some ⟨w1.heap.size, 0, none⟩)) rfl rfl (fun w' hS => ?_) ?_
      · obtain ⟨-, z0, z1⟩ := hS
        go_simp
      refine wpPureH_step (.int .i64 va) rfl rfl (fun w' hS => ?_) ?_
      · obtain ⟨-, z0, z1⟩ := hS
        go_simp
      refine wpPureH_step (.pointer (some ⟨w1.heap.size, 0, none⟩)) rfl rfl (fun w' hS => ?_) ?_
      · obtain ⟨-, z0, z1⟩ := hS
        go_simp
      refine wpPureH_step (.pointer (some ⟨w1.heap.size, 1, none⟩)) rfl rfl (fun w' hS => ?_) ?_
      · obtain ⟨-, z0, z1⟩ := hS
        go_simp
      refine wpPureH_step (.slice oa La.length ca) rfl rfl (fun w' hS => ?_) ?_
      · obtain ⟨-, z0, z1⟩ := hS
        go_simp
      refine wpPureH_nil ?_
      have HBa := hide (HB4.out.on ((Below.refl w2.heap.size w2).drew))
      have ka0 : w2.drew.cell? ⟨w1.heap.size, 0, none⟩ = some (.int .i64 va) := k0
      have ka1 : w2.drew.cell? ⟨w1.heap.size, 1, none⟩ = some (.slice oa La.length ca) := k1
      clear HB4 k0 k1 HSk
      generalize w2.drew = wa at *
      refine one_readyH (i := 6) (by kernel_rfl) rfl rfl (fun K hK => ?_)
      go_simp
      refine (cloneV_any La oa ca wa (HLa.out.below HBa.out.2.2) (by omega)).mono ?_
      rintro e wd ⟨⟨v1, rfl, ⟨oc, cc, rfl, ha⟩, hf1⟩, hbd⟩
      have hsz := HBa.out.2.1
      simp only [List.length_append, List.length_cons, List.length_nil] at hsz
      have HV1 := hide (And.intro (show IntsV wd (.slice oc La.length cc) La from ⟨oc, cc, rfl, ha⟩) (hf1.monoD (show w.heap.size + 1 + 1 + 1 ≤ wa.heap.size by omega)))
      have HBd := hide (HBa.out.on hbd)
      have kb0 : wd.cell? ⟨w1.heap.size, 0, none⟩ = some (.int .i64 va) := by rw [hbd.cell (World.block_lt_of_cell? wa _ ka0)]; exact ka0
      have kb1 : wd.cell? ⟨w1.heap.size, 1, none⟩ = some (.slice oa La.length ca) := by rw [hbd.cell (World.block_lt_of_cell? wa _ ka1)]; exact ka1
      clear ha hf1 hbd HBa hsz ka0 ka1
      refine hK _ _ ⟨HBd.out.sub, kb0, kb1⟩ ?_
      clear hK K
      refine one_readyH (i := 7) (by kernel_rfl) rfl rfl (fun K hK => ?_)
      go_simp
      refine hK _ _ ⟨HBd.out.sub, kb0, kb1⟩ ?_
      clear hK K
      have r0 := HBd.out.cell 2 0 (w.heap.size + 1 + 1) _ _ _ rfl rfl rfl
      have r1 := HBd.out.cell 2 1 (w.heap.size + 1 + 1) _ _ _ rfl rfl rfl
      have s0 := HBd.out.frozen 2 0 (w.heap.size + 1 + 1) _ _ rfl rfl
      have s1 := HBd.out.frozen 2 1 (w.heap.size + 1 + 1) _ _ rfl rfl
      refine one_readyH (i := 8) (by kernel_rfl) rfl rfl (fun K hK => ?_)
      go_simp
      have HKg := hide ((HBd.out.sub.set ⟨w.heap.size + 1 + 1, 0, none⟩ (by simp) (.int .i64 va)).set ⟨w.heap.size + 1 + 1, 1, none⟩ (by simp) (.slice oc La.length cc))
      have g0 : ((wd.setCell ⟨w.heap.size + 1 + 1, 0, none⟩ (.int .i64 va)).setCell ⟨w.heap.size + 1 + 1, 1, none⟩ (.slice oc La.length cc)).cell? ⟨w.heap.size + 1 + 1, 0, none⟩ = some (.int .i64 va) := by simp [go_sem, r0]
      have g1 : ((wd.setCell ⟨w.heap.size + 1 + 1, 0, none⟩ (.int .i64 va)).setCell ⟨w.heap.size + 1 + 1, 1, none⟩ (.slice oc La.length cc)).cell? ⟨w.heap.size + 1 + 1, 1, none⟩ = some (.slice oc La.length cc) := by simp [go_sem, r1]
      have kc0 := cell_set_ne (p := ⟨w.heap.size + 1 + 1, 1, none⟩) (u := .slice oc La.length cc) (by simp; omega) (cell_set_ne (p := ⟨w.heap.size + 1 + 1, 0, none⟩) (u := .int .i64 va) (by simp; omega) kb0)
      have kc1 := cell_set_ne (p := ⟨w.heap.size + 1 + 1, 1, none⟩) (u := .slice oc La.length cc) (by simp; omega) (cell_set_ne (p := ⟨w.heap.size + 1 + 1, 0, none⟩) (u := .int .i64 va) (by simp; omega) kb1)
      have HVg := hide ((HV1.out.1.setD HV1.out.2 (p := ⟨w.heap.size + 1 + 1, 0, none⟩) (by simp) (.int .i64 va)).setD HV1.out.2 (p := ⟨w.heap.size + 1 + 1, 1, none⟩) (by simp) (.slice oc La.length cc))
      have HFg := hide (HV1.out.2.monoD (show w.heap.size ≤ w.heap.size + 1 + 1 + 1 by omega))
      refine hK _ _ ⟨HKg.out, kc0, kc1⟩ ?_
      clear hK K HV1 HBd r0 r1 s0 s1 kb0 kb1
      generalize (wd.setCell ⟨w.heap.size + 1 + 1, 0, none⟩ (.int .i64 va)).setCell ⟨w.heap.size + 1 + 1, 1, none⟩ (.slice oc La.length cc) = wg at *
      refine one_readyH (i := 9) (by kernel_rfl) rfl rfl (fun K hK => ?_)
      go_simp
      refine hK _ _ ⟨HKg.out, kc0, kc1⟩ ?_
      clear hK K kc0 kc1
      refine wpAnyH_done (by kernel_rfl) ?_ _
      go_wp2_with fail
      refine bodyPost_ret (v := .tuple #[.agg #[.int .i64 va, .slice oc La.length cc], .int .i64 0]) (by simp [results, Try.results22, go_sem, g0, g1]) rfl ⟨⟨_, rfl, HVg.out, HFg.out⟩, HKg.out.2.2⟩
  · have h1 : (E != 0) = true := by simpa using hE
    rw [if_neg hE, if_neg hE]
    clear hE
    go_enter Try.func22, Try.ntmps22
    go_wp2_with fail
    have HC := hide ((Blks.nil _).more (w := ((w.alloc (.cells #[.int .i64 va, .slice oa La.length ca] 25)).alloc (.cells #[.int .i64 vb, .slice ob Lb.length cb] 25)).alloc (.cells #[.int .i64 0, .slice none 0 0] 25)) (.cells #[.int .i64 va, .slice oa La.length ca, .int .i64 vb, .slice ob Lb.length cb] 25) (by simp))
    have HB1 := hide (HB.out.on HC.out.2.2)
    refine (HW.out _ _ (densAt_two _ va vb La Lb oa ob ca cb _ _ (by simpa using HC.out.1 0 _ rfl) (HLa.out.below HB1.out.2.2) hla (HLb.out.below HB1.out.2.2) hlb)).mono ?_
    rintro e w1 ⟨rfl, hb1⟩
    have HB2 := hide (HB1.out.on hb1)
    clear hb1 HB HB1 HC
    have r0 := HB2.out.cell 2 0 (w.heap.size + 1 + 1) _ _ _ rfl rfl rfl
    have r1 := HB2.out.cell 2 1 (w.heap.size + 1 + 1) _ _ _ rfl rfl rfl
    have s0 := HB2.out.frozen 2 0 (w.heap.size + 1 + 1) _ _ rfl rfl
    have s1 := HB2.out.frozen 2 1 (w.heap.size + 1 + 1) _ _ rfl rfl
    go_wp2_with fail
    refine bodyPost_ret (v := .tuple #[dn 0 none 0 0, .int .i64 E]) (by simp [results, Try.results22, go_sem, *]) rfl ⟨⟨_, rfl, ?_, ?_⟩, ?_⟩
    · exact ⟨none, 0, rfl, fun i p h => by simp at h, by simp, fun _ => rfl⟩
    · exact fun k hk => by simp [Value.ownBlock] at hk
    · repeat (first | with_reducible refine Below.setCell ?_ (by simp; try omega) _ | exact HB2.out.2.2)

theorem newer_any (va vb : Int) (La Lb : List Int) (oa ob : Option Addr) (ca cb : Nat) (w : World) (hLa : IntsAt w oa La) (hLb : IntsAt w ob Lb) (hla : La.length ≤ 9223372036854775807) (hlb : Lb.length ≤ 9223372036854775807) :
    Calls Try.prog 22 #[dn va oa La.length ca, dn vb ob Lb.length cb] w fun e w' =>
      (∃ u, e = .returned (.tuple #[u, .int .i64 (newE va La vb Lb)]) ∧ DenV w' u (if newE va La vb Lb = 0 then (if va < vb then vb else va) else 0) (if newE va La vb Lb = 0 then (if va < vb then Lb else La) else [])) ∧ Below w.heap.size w w' :=
  (newerF_any va vb La Lb oa ob ca cb w hLa hLb hla hlb).mono fun _ _ ⟨⟨_, he, hu, _⟩, hb⟩ => ⟨⟨_, he, ⟨_, rfl, hu⟩⟩, hb⟩
end Go.Proofs.Ytlnmheooicancaa
