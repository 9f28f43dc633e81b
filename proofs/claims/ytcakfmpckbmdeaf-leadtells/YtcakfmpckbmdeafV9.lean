/-
  Views: 'WhoOf', 'WinOf' (package leeboardref).
-/
import Derived.Test.YtcakfmpckbmdeafV7
import Derived.Test.YtcakfmpckbmdeafV8
namespace Go.Proofs.Ytcakfmpckbmdeaf
open Go.RowKit

theorem topW_max (L : List VW) : ∀ p ∈ L, p.e ≤ (topW L).e := by
  cases L with
  | nil => intro p hp; simp at hp
  | cons x r =>
    show ∀ p ∈ x :: r, p.e ≤ (List.foldl _ x r).e
    have key : ∀ (r : List VW) (x : VW), x.e ≤ (List.foldl (fun m y : VW => if m.e < y.e then y else m) x r).e ∧ ∀ p ∈ r, p.e ≤ (List.foldl (fun m y : VW => if m.e < y.e then y else m) x r).e := by
      intro r
      induction r with
      | nil => intro x; simp
      | cons y r ih =>
        intro x
        rw [List.foldl_cons]
        split
        · rename_i h
          refine ⟨by have := (ih y).1; omega, fun p hp => ?_⟩
          rcases List.mem_cons.1 hp with rfl | hp
          · exact (ih p).1
          · exact (ih y).2 p hp
        · rename_i h
          refine ⟨(ih x).1, fun p hp => ?_⟩
          rcases List.mem_cons.1 hp with rfl | hp
          · have := (ih x).1; omega
          · exact (ih x).2 p hp
    intro p hp
    rcases List.mem_cons.1 hp with rfl | hp
    · exact (key r p).1
    · exact (key r x).2 p hp

/-- the last leader of an epoch -/
def lastL (e : Int) (L : List VW) : Int := L.foldl (fun w v => if v.e = e then v.l else w) 0
def isE (e : Int) (v : VW) : Bool := v.e == e
def upE (e : Int) (v : VW) : Bool := v.u && v.e == e

theorem lastL_snoc (e : Int) (L : List VW) (p : VW) : lastL e (L ++ [p]) = if p.e = e then p.l else lastL e L := by
  rw [lastL, List.foldl_append]
  rfl

theorem lastL_top {L : List VW} (h : chkVs L = 0) {e : Int} (ha : L.any (isE e) = true) (hm : ∀ p ∈ L, p.e ≤ e) : (topW L).e = e ∧ lastL e L = (topW L).l := by
  have hl := right_len h
  have hmem := topW_mem L (by intro e; rw [e] at hl; simp at hl)
  have hsp : splW L = false := by
    obtain ⟨_, _, _, -, -, -, -, hs⟩ := chkVs_right h
    exact hs
  obtain ⟨p, hp, hpe⟩ := List.any_eq_true.1 ha
  have hpe' : p.e = e := by simpa [isE] using hpe
  have h1 := topW_max L p hp
  have h2 := hm _ hmem
  have he : (topW L).e = e := by omega
  refine ⟨he, ?_⟩
  have hall : ∀ v ∈ L, v.e = e → v.l = (topW L).l := by
    intro v hv hve
    cases hne : (v.l != (topW L).l)
    · simpa using hne
    · have := splW_pair hv hmem (by rw [twoW, hne, hve, he]; simp)
      rw [hsp] at this
      cases this
  have key : ∀ (M : List VW) (w x : Int), (∀ v ∈ M, v.e = e → v.l = x) → M.foldl (fun w v => if v.e = e then v.l else w) w = if M.any (isE e) = true then x else w := by
    intro M
    induction M with
    | nil => intro w x _; simp
    | cons v M ih =>
      intro w x hx
      rw [List.foldl_cons, ih _ x (fun u hu => hx u (List.mem_cons_of_mem _ hu)), List.any_cons]
      by_cases hv : v.e = e
      · have h3 := hx v (by simp) hv
        rw [if_pos hv, h3]
        simp [isE, hv]
      · rw [if_neg hv]
        have : isE e v = false := by simpa [isE] using hv
        rw [this, Bool.false_or]
  rw [lastL, key L 0 _ hall, if_pos ha]

theorem lead_of {L : List VW} {e : Int} (h : chkVs L = 0) (ha : L.any (isE e) = true) (hm : ∀ p ∈ L, p.e ≤ e) (h0 : 0 < e) :
    leadsW L = (decide (2 ≤ (L.countP (upE e) : Int)) && upAt L (lastL e L)) ∧ (topW L).l = lastL e L := by
  obtain ⟨h1, h2⟩ := lastL_top h ha hm
  refine ⟨?_, h2.symm⟩
  rw [leadsW, ← h2, h1, mostW]
  have e1 : lastG (topW L) = upE e := by funext v; rw [lastG, upE, h1]
  rw [e1]
  have e2 : (e != 0) = true := by simp; omega
  rw [e2, Bool.true_and, Bool.and_comm]
  congr 1
  rw [decide_eq_decide]
  omega

theorem lead_none {L : List VW} (h : chkVs L = 0) (hm : ∀ p ∈ L, p.e ≤ 0) : leadsW L = false := by
  have hl := right_len h
  have hmem := topW_mem L (by intro e; rw [e] at hl; simp at hl)
  have h1 := hm _ hmem
  have h2 := (right_range h _ hmem).1
  have h3 : (topW L).e = 0 := by omega
  simp [leadsW, h3]

set_option maxHeartbeats 6400000 in
theorem whoOf_any (o : Option Addr) (cap : Nat) (L : List VW) (w : World) (hL : VwsAt w o L) (h0 : chkVs L = 0) :
    Calls Try.prog 9 #[.slice o L.length cap] w fun x w' => x = .returned (.tuple #[.int .i64 (whoW L), .bool (leadsW L)]) ∧ Below w.heap.size w w' := by
  have HL := hide hL
  have H3 := hide (right_len h0)
  have HC := hide h0
  have hlen : L.length ≤ 9223372036854775807 := by have := H3.out; omega
  obtain ⟨R1, hR1⟩ : ∃ R1, R1 = whoW L := ⟨_, rfl⟩
  obtain ⟨R2, hR2⟩ : ∃ R2, R2 = leadsW L := ⟨_, rfl⟩
  rw [← hR1, ← hR2]
  rw [whoW, ← hR2] at hR1
  have HR1 := hide hR1
  have HR2 := hide hR2
  have HM0 : Hid (∀ p ∈ L, p.e ≤ 99) := fun p hp => (right_range h0 p hp).2.1
  clear hL h0 hR1 hR2
  go_enter Try.func9, Try.ntmps9
  go_wp2_with fail
  go_loopw [4] (fun j wr => ∃ (e : Nat), e ≤ 99 ∧ j = .int .i64 e ∧ Hid (∀ p ∈ L, p.e ≤ (e : Int)) ∧ Hid (Below w.heap.size w wr)) (fun j _ => (intOf j).toNat)
  case atStart => exact ⟨99, by omega, rfl, HM0, Below.refl _ _⟩
  case round =>
    obtain ⟨e, he, rfl, hM, hB⟩ := hrel
    by_cases hge : 0 < e
    · have heI : (0 : Int) < (e : Int) := by omega
      go_wp2_with fail
      go_loopw [5, 6, 7, 8] (fun t n v j ws => ∃ (q k : Nat) (b : Bool) (W : Int), q ≤ 3 ∧ k ≤ q ∧ j = .int .i64 q ∧ t = .bool b ∧ n = .int .i64 k ∧ v = .int .i64 W ∧ Hid (b = (L.take q).any (isE e) ∧ k = (L.take q).countP (upE e) ∧ W = lastL e (L.take q)) ∧ Hid (Below w.heap.size w ws)) (fun _ _ _ j _ => 3 - (intOf j).toNat)
      case atStart => exact ⟨0, 0, false, 0, by omega, by omega, rfl, rfl, rfl, rfl, ⟨by simp, by simp, by simp [lastL]⟩, hB⟩
      case round =>
        obtain ⟨q, k, b, W, hq, hk, rfl, rfl, rfl, rfl, hS, hB'⟩ := hrel
        by_cases hgo : q < 3
        · obtain ⟨p, hp⟩ : ∃ p, L[q]? = some p := ⟨L[q]'(by have := H3.out; omega), by simp⟩
          have hqL : (q : Int) < (L.length : Int) := by have := H3.out; omega
          have hq3 : (q : Int) < 3 := by omega
          obtain ⟨A, rfl, c0, c1, c2⟩ := (HL.out.below hB'.out) q p hp
          have HS : Hid ((L.take (q + 1)).any (isE e) = (b || isE e p) ∧ (L.take (q + 1)).countP (upE e) = k + (if upE e p = true then 1 else 0) ∧ lastL e (L.take (q + 1)) = if p.e = e then p.l else W) := by
            obtain ⟨s1, s2, s3⟩ := hS.out
            refine ⟨?_, ?_, ?_⟩
            · rw [List.take_add_one, hp, Option.toList_some, List.any_append, s1]; simp
            · rw [List.take_add_one, hp, Option.toList_some, List.countP_append, s2]; simp [List.countP_cons]
            · rw [List.take_add_one, hp, Option.toList_some, lastL_snoc, s3]
          clear hp hS
          obtain ⟨pe, pl, pu⟩ := p
          simp only [] at c0 c1 c2
          have u1 : isE e ⟨pe, pl, pu⟩ = (pe == (e : Int)) := rfl
          have u2 : upE e ⟨pe, pl, pu⟩ = (pu && (pe == (e : Int))) := rfl
          rw [u1, u2] at HS
          clear u1 u2
          cases h1 : (pe == (e : Int))
          · have HS' : Hid (b = (L.take (q + 1)).any (isE e) ∧ k = (L.take (q + 1)).countP (upE e) ∧ W = lastL e (L.take (q + 1))) := by
              obtain ⟨s1, s2, s3⟩ := HS.out
              have hne : ¬ pe = (e : Int) := by simpa using h1
              refine ⟨?_, ?_, ?_⟩
              · rw [s1, h1]; simp
              · rw [s2, h1]; simp
              · rw [s3, if_neg hne]
            clear HS
            go_wp2_with fail
            exact ⟨⟨q + 1, k, b, W, by omega, by omega, by simp, rfl, rfl, rfl, HS', hB'⟩, by simp [intOf]; omega⟩
          · cases pu
            · have HS' : Hid (true = (L.take (q + 1)).any (isE e) ∧ k = (L.take (q + 1)).countP (upE e) ∧ pl = lastL e (L.take (q + 1))) := by
                obtain ⟨s1, s2, s3⟩ := HS.out
                have hne : pe = (e : Int) := by simpa using h1
                refine ⟨?_, ?_, ?_⟩
                · rw [s1, h1]; simp
                · rw [s2]; simp
                · rw [s3, if_pos hne]
              clear HS
              go_wp2_with fail
              go_quiet (fail)
              go_wp2_with fail
              exact ⟨⟨q + 1, k, true, pl, by omega, by omega, by simp, rfl, rfl, rfl, HS', below_drewN hB'.out _⟩, by simp [intOf]; omega⟩
            · have HS' : Hid (true = (L.take (q + 1)).any (isE e) ∧ k + 1 = (L.take (q + 1)).countP (upE e) ∧ pl = lastL e (L.take (q + 1))) := by
                obtain ⟨s1, s2, s3⟩ := HS.out
                have hne : pe = (e : Int) := by simpa using h1
                refine ⟨?_, ?_, ?_⟩
                · rw [s1, h1]; simp
                · rw [s2, h1]; simp
                · rw [s3, if_pos hne]
              clear HS
              go_wp2_with fail
              go_quiet (fail)
              go_wp2_with fail
              exact ⟨⟨q + 1, k + 1, true, pl, by omega, by omega, by simp, rfl, by simp, rfl, HS', below_drewN hB'.out _⟩, by simp [intOf]; omega⟩
        · have hq3 : ¬ ((q : Int) < 3) := by omega
          have hS' := hS.out
          rw [List.take_of_length_le (by have := H3.out; omega)] at hS'
          have HS := hide hS'
          clear hS hS'
          cases b
          · have hM' : Hid (∀ p ∈ L, p.e ≤ ((e - 1 : Nat) : Int)) := fun p hp => by
              have h1 := hM.out p hp
              have h2 : isE e p = false := by
                have := HS.out.1.symm
                rw [List.any_eq_false] at this
                simpa using this p hp
              have h3 : ¬ p.e = (e : Int) := by simpa [isE] using h2
              omega
            have he1 : ((e : Int) - 1) = ((e - 1 : Nat) : Int) := by omega
            clear HS
            go_wp2_with fail
            exact ⟨⟨e - 1, by omega, by rw [← he1], hM', hB'⟩, by simp [intOf]; omega⟩
          · obtain ⟨s1, s2, s3⟩ := HS.out
            obtain ⟨hld, htl⟩ := lead_of HC.out s1.symm hM.out heI
            rw [← s2, ← s3] at hld
            rw [← s3] at htl
            obtain ⟨te, tk, tu, pl, ht, -, -, htk, hpl, hup⟩ := top_facts HC.out
            rw [ht] at htl
            simp only [] at htl
            obtain rfl := htl
            obtain ⟨pe, pll, pu⟩ := pl
            simp only [hup] at hld
            have HLD := hide hld
            have hkL : (tk : Int) < (L.length : Int) := by have := H3.out; omega
            obtain ⟨A, rfl, c0, c1, c2⟩ := (HL.out.below hB'.out) tk _ hpl
            have HT := hide ht
            clear s1 s2 s3 HS hld ht hpl hup
            by_cases hk2 : 2 ≤ k
            · have hk2' : (2 : Int) ≤ (k : Int) := by omega
              cases pu
              · have HA : Hid (R2 = false) := by
                  show _ = _
                  rw [HR2.out, HLD.out]; simp
                have HA1 : Hid (R1 = 0) := by
                  show _ = _
                  rw [HR1.out, HA.out]; rfl
                clear HLD
                go_wp2_with fail
                go_ret2
                exact ⟨by rw [HA.out, HA1.out]; rfl, hB'.out⟩
              · have HA : Hid (R2 = true) := by
                  show _ = _
                  rw [HR2.out, HLD.out]; simp; omega
                have HA1 : Hid (R1 = tk) := by
                  show _ = _
                  rw [HR1.out, HA.out, HT.out]; rfl
                clear HLD
                go_wp2_with fail
                go_ret2
                exact ⟨by rw [HA.out, HA1.out]; rfl, hB'.out⟩
            · have hk2' : ¬ ((2 : Int) ≤ (k : Int)) := by omega
              have HA : Hid (R2 = false) := by
                show _ = _
                rw [HR2.out, HLD.out]; simp; omega
              have HA1 : Hid (R1 = 0) := by
                show _ = _
                rw [HR1.out, HA.out]; rfl
              clear HLD
              go_wp2_with fail
              go_ret2
              exact ⟨by rw [HA.out, HA1.out]; rfl, hB'.out⟩
    · obtain rfl : e = 0 := by omega
      have HA : Hid (R2 = false) := by
        show _ = _
        rw [HR2.out]
        exact lead_none HC.out (fun p hp => by simpa using hM.out p hp)
      have HA1 : Hid (R1 = 0) := by
        show _ = _
        rw [HR1.out, HA.out]; rfl
      go_wp2_with fail
      go_ret2
      exact ⟨by rw [HA.out, HA1.out]; rfl, hB.out⟩
end Go.Proofs.Ytcakfmpckbmdeaf
