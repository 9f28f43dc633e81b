/-
  Who wins leads: lists alone.
-/
import Derived.Test.YtcakfmpckbmdeafV9
import Derived.Test.YtcakfmpckbmdeafV13
namespace Go.Proofs.Ytcakfmpckbmdeaf
open Go.RowKit

theorem chkVs_intro {L : List VW} (hl : L.length = 3) (h : ∀ p ∈ L, chkW p = 0) (hs : ∀ v ∈ L, ∀ w ∈ L, v.e = w.e → v.l = w.l) : chkVs L = 0 := by
  match L, hl with
  | [a, b, c], _ =>
  refine chkVs_of (h a (by simp)) (h b (by simp)) (h c (by simp)) ?_
  rw [splW_three]
  exact ⟨hs a (by simp) b (by simp), hs a (by simp) c (by simp), hs b (by simp) c (by simp)⟩

theorem chkVs_one {L : List VW} (h : chkVs L = 0) : (∀ p ∈ L, chkW p = 0) ∧ ∀ v ∈ L, ∀ w ∈ L, v.e = w.e → v.l = w.l := by
  obtain ⟨a, b, c, rfl, ha, hb, hc, hs⟩ := chkVs_right h
  rw [splW_three] at hs
  obtain ⟨h1, h2, h3⟩ := hs
  refine ⟨fun p hp => ?_, fun v hv w hw => ?_⟩
  · simp only [List.mem_cons, List.not_mem_nil, or_false] at hp
    rcases hp with rfl | rfl | rfl <;> assumption
  · simp only [List.mem_cons, List.not_mem_nil, or_false] at hv hw
    rcases hv with rfl | rfl | rfl <;> rcases hw with rfl | rfl | rfl <;> intro he <;> first | rfl | exact h1 he | exact h2 he | exact h3 he | exact (h1 he.symm).symm | exact (h2 he.symm).symm | exact (h3 he.symm).symm

theorem now_of {M : List VW} {T who : Int} (h : chkVs M = 0) (h1 : (topW M).e = T) (h2 : (topW M).l = who) (hT : T ≠ 0) :
    nowB M = (upAt M who && decide (2 ≤ (M.countP (upE T) : Int))) ∧ nowI M = if nowB M = true then who else 0 := by
  refine ⟨?_, by rw [nowI, h2]⟩
  have e1 : lastG (topW M) = upE T := by funext v; rw [lastG, upE, h1]
  have e2 : (T != 0) = true := by simpa using hT
  rw [nowB, leadsW, h1, h2, e1, e2, mostW, h]
  simp only [decide_true, Bool.true_and]
  congr 1
  rw [decide_eq_decide]
  omega

/-- behind a win -/
theorem win_leads {L : List VW} {who : Int} (hu : unfW L who 1 = 0) (hup : upAt L who = true) (hm : mostW upG L = true) (h99 : (topW L).e ≠ 99) :
    chkVs (promW L ((topW L).e + 1) who) = 0 ∧ (topW (promW L ((topW L).e + 1) who)).e = (topW L).e + 1 ∧ (topW (promW L ((topW L).e + 1) who)).l = who ∧ (promW L ((topW L).e + 1) who)[who.toNat]? = some ⟨(topW L).e + 1, who, true⟩ ∧
      0 < (topW L).e + 1 ∧ nowB (promW L ((topW L).e + 1) who) = true ∧ nowI (promW L ((topW L).e + 1) who) = who := by
  obtain ⟨hc, h0, h1⟩ := unfW_right hu
  have hl := right_len hc
  obtain ⟨hall, hspl⟩ := chkVs_one hc
  have hmax := topW_max L
  have hne : L ≠ [] := by intro e; rw [e] at hl; simp at hl
  have htop := right_range hc _ (topW_mem L hne)
  generalize hT : (topW L).e = t at *
  have hat : (promW L (t + 1) who)[who.toNat]? = some ⟨t + 1, who, true⟩ := by
    rw [promW, List.getElem?_map]
    rw [upAt] at hup
    cases hx : L[who.toNat]? with
    | none => rw [hx] at hup; simp at hup
    | some x =>
      rw [hx] at hup
      simp at hup
      simp [hup]
  have hmem : ∀ v ∈ promW L (t + 1) who, v = ⟨t + 1, who, true⟩ ∨ (v ∈ L ∧ v.u = false) := by
    intro v hv
    rw [promW, List.mem_map] at hv
    obtain ⟨x, hx, rfl⟩ := hv
    cases hxu : x.u
    · right; simp [hxu]; exact hx
    · left; simp
  have hA : chkVs (promW L (t + 1) who) = 0 := by
    refine chkVs_intro (by rw [promW_len]; exact hl) (fun p hp => ?_) (fun v hv w hw he => ?_)
    · rcases hmem p hp with rfl | ⟨h, -⟩
      · rw [chkW_zero]; simp only []; omega
      · exact hall p h
    · rcases hmem v hv with rfl | ⟨h2, -⟩ <;> rcases hmem w hw with rfl | ⟨h3, -⟩
      · rfl
      · have := hmax w h3; simp only [] at he; omega
      · have := hmax v h2; simp only [] at he; omega
      · exact hspl v h2 w h3 he
  have hlA := right_len hA
  have hneA : promW L (t + 1) who ≠ [] := by intro e; rw [e] at hlA; simp at hlA
  have hge := topW_max (promW L (t + 1) who) _ (List.mem_of_getElem? hat)
  have htopA : topW (promW L (t + 1) who) = ⟨t + 1, who, true⟩ := by
    rcases hmem _ (topW_mem _ hneA) with h | ⟨h, -⟩
    · exact h
    · have := hmax _ h; simp only [] at hge; omega
  have e1 : (topW (promW L (t + 1) who)).e = t + 1 := by rw [htopA]
  have e2 : (topW (promW L (t + 1) who)).l = who := by rw [htopA]
  obtain ⟨n1, n2⟩ := now_of hA e1 e2 (by omega)
  have hupA : upAt (promW L (t + 1) who) who = true := by simp [upAt, hat]
  have hcnt : (promW L (t + 1) who).countP (upE (t + 1)) = L.countP upG := by
    rw [promW, List.countP_map]
    congr 1
    funext v
    cases hv : v.u <;> simp [upE, upG, hv]
  have hb : nowB (promW L (t + 1) who) = true := by
    rw [n1, hupA, hcnt]
    rw [mostW, decide_eq_true_eq] at hm
    simp only [Bool.true_and, decide_eq_true_eq]
    omega
  exact ⟨hA, e1, e2, hat, by omega, hb, by rw [n2, hb]; rfl⟩

theorem setL_top {A : List VW} {v : Int} {up : Bool} (h : unfW A v 2 = 0) : (topW (setL A v up)).e = (topW A).e ∧ (topW (setL A v up)).l = (topW A).l := by
  obtain ⟨hc, h0, h1⟩ := unfW_right h
  obtain ⟨x, y, z, rfl, -⟩ := chkVs_right hc
  rcases three_cases h0 h1 with rfl | rfl | rfl
  · show (topW [⟨x.e, x.l, up⟩, y, z]).e = _ ∧ (topW [⟨x.e, x.l, up⟩, y, z]).l = _
    rw [topW_three, topW_three]
    by_cases h1 : x.e < y.e <;> by_cases h2 : x.e < z.e <;> by_cases h3 : y.e < z.e <;> simp [h1, h2, h3]
  · show (topW [x, ⟨y.e, y.l, up⟩, z]).e = _ ∧ (topW [x, ⟨y.e, y.l, up⟩, z]).l = _
    rw [topW_three, topW_three]
    by_cases h1 : x.e < y.e <;> by_cases h2 : x.e < z.e <;> by_cases h3 : y.e < z.e <;> simp [h1, h2, h3]
  · show (topW [x, y, ⟨z.e, z.l, up⟩]).e = _ ∧ (topW [x, y, ⟨z.e, z.l, up⟩]).l = _
    rw [topW_three, topW_three]
    by_cases h1 : x.e < y.e <;> by_cases h2 : x.e < z.e <;> by_cases h3 : y.e < z.e <;> simp [h1, h2, h3]
end Go.Proofs.Ytcakfmpckbmdeaf
