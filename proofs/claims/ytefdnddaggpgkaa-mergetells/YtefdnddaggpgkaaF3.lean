/-
  'each' with 'Check' (package rule), 'twice' (package merge).
-/
import Derived.Test.YtefdnddaggpgkaaP1
import Derived.Test.YtefdnddaggpgkaaR4
import Derived.Test.YtefdnddaggpgkaaG0
namespace Go.Proofs.Ytefdnddaggpgkaa
open Go.RowKit

theorem dropP {L : List TP} {q : Nat} {x : TP} (h : L[q]? = some x) : L.drop q = x :: L.drop (q + 1) := by
  obtain ⟨h1, h2⟩ := List.getElem?_eq_some_iff.1 h
  rw [List.drop_eq_getElem_cons h1, h2]

set_option maxHeartbeats 1600000 in
theorem eachC_any (o : Option Addr) (cap : Nat) (L : List TP) (w : World) (hL : TapsAt w o L) (hlen : L.length ≤ 9223372036854775807) :
    Calls Try.prog 34 #[.slice o L.length cap, .func (.func 40) #[] #[]] w fun x w' => x = .returned (.int .i64 (firstE (L.map chkT))) ∧ Below w.heap.size w w' := by
  have HL := hide hL
  obtain ⟨R, hR⟩ : ∃ R, R = firstE (L.map chkT) := ⟨_, rfl⟩
  rw [← hR]
  have HR := hide hR
  clear hL hR
  go_enter Try.func34, Try.ntmps34
  go_wp2_with fail
  go_loopw [10] (fun j wr => ∃ (q : Nat), q ≤ L.length ∧ j = .int .i64 q ∧ Hid (firstE (L.map chkT) = firstE ((L.drop q).map chkT)) ∧ Below w.heap.size w wr) (fun j _ => L.length - (intOf j).toNat)
  case atStart => exact ⟨0, Nat.zero_le _, rfl, by show _ = _; simp, Below.refl _ _⟩
  case round =>
    obtain ⟨q, hq, rfl, hE, hbr⟩ := hrel
    by_cases hgo : q < L.length
    · obtain ⟨p, hp⟩ : ∃ p, L[q]? = some p := ⟨L[q], by simp [hgo]⟩
      obtain ⟨A, rfl, c0, c1, c2, c3, c4⟩ := (HL.out.below hbr) q p hp
      have hE' := hE.out
      rw [dropP hp, List.map_cons, firstE] at hE'
      clear hE hp
      have HV := hide (fun W => checkP_any p.a p.g p.s p.m p.z W)
      have HE := hide hE'
      clear hE'
      have HW := hide hbr
      go_wp2_with fail
      refine (HV.out _).mono ?_
      rintro e w3 ⟨rfl, hb3⟩
      have HB := hide (HW.out.trans ((Below.alloc (Below.refl wr.heap.size wr) (Nat.le_refl _) (.cells #[.int .i64 p.a, .int .i64 p.g, .int .i64 p.s, .int .i64 p.m, .int .i64 p.z] 28)).trans (hb3.mono (by simp)) |>.mono HW.out.size))
      clear hbr hb3
      have hC : chkT p = chkP p.a p.g p.s p.m p.z := rfl
      rw [hC] at HE
      clear hC
      generalize chkP p.a p.g p.s p.m p.z = E at *
      by_cases h0 : E = 0
      · subst h0
        have HE' := hide (show firstE (L.map chkT) = firstE ((L.drop (q + 1)).map chkT) from HE.out)
        go_wp2_with fail
        exact ⟨⟨q + 1, by omega, by simp, HE', HB.out⟩, by simp [intOf]; omega⟩
      · have h0' : (E != 0) = true := by simpa using h0
        have HR' : Hid (R = E) := by
          show _ = _
          have h1 := HE.out
          rw [if_neg h0] at h1
          rw [HR.out, h1]
        clear h0
        go_wp2_with fail
        go_ret
        exact ⟨by rw [HR'.out]; rfl, HB.out⟩
    · have hE' := hE.out
      rw [List.drop_of_length_le (by omega)] at hE'
      have HR' := hide (show R = 0 by rw [HR.out, hE']; rfl)
      clear hE'
      go_wp2_with fail
      go_ret
      exact ⟨by rw [HR'.out]; rfl, hbr⟩
end Go.Proofs.Ytefdnddaggpgkaa
