/-
  What is wrong with a list of what is denied: 'isId', 'checkIds', 'check' (package denied).
-/
import Derived.Test.YtlnmheooicancaaR5
import Derived.Test.YtlnmheooicancaaG0
namespace Go.Proofs.Ytlnmheooicancaa
open Go.RowKit

/-- a list of what is denied, as the model holds it -/
abbrev dn (v : Int) (o : Option Addr) (n c : Nat) : Value := .agg #[.int .i64 v, .slice o n c]

theorem isId_any (n : Int) (w : World) :
    Calls Try.prog 48 #[.int .i64 n] w fun e w' => e = .returned (.bool (wi n 1 9999)) ∧ w' = w := by
  go_enter Try.func48, Try.ntmps48
  go_wp2_with (go_at_call 26; refine (within_any _ _ _ _).mono ?_; rintro e w' ⟨rfl, rfl⟩)
  go_ret
  exact ⟨rfl, rfl⟩

/-- what is wrong with ids, one by one -/
def errD : Int → List Int → Int
  | _, [] => 0
  | l, x :: r => if wi x 1 9999 = false then 3 else if x ≤ l then 4 else errD x r

theorem errD_ways (l x : Int) (r : List Int) : (wi x 1 9999 = false ∧ errD l (x :: r) = 3) ∨ (wi x 1 9999 = true ∧ x ≤ l ∧ errD l (x :: r) = 4) ∨ (wi x 1 9999 = true ∧ ¬ x ≤ l ∧ errD l (x :: r) = errD x r) := by
  rw [errD]
  cases wi x 1 9999
  · simp
  · by_cases h : x ≤ l <;> simp [h]

theorem drop_cons {α : Type} {L : List α} {q : Nat} {x : α} (h : L[q]? = some x) : L.drop q = x :: L.drop (q + 1) := by
  obtain ⟨h1, h2⟩ := List.getElem?_eq_some_iff.1 h
  rw [List.drop_eq_getElem_cons h1, h2]

set_option maxHeartbeats 1600000 in
theorem checkIds_any (v : Int) (L : List Int) (o : Option Addr) (c : Nat) (w : World) (hL : IntsAt w o L) (hlen : L.length ≤ 12) :
    Calls Try.prog 47 #[dn v o L.length c] w fun e w' => e = .returned (.int .i64 (errD 0 L)) ∧ Below w.heap.size w w' := by
  have HL := hide (hL.below ((Below.refl w.heap.size w).alloc (Nat.le_refl _) (.cells #[.int .i64 v, .slice o L.length c] 72)))
  have HB := hide ((Below.refl w.heap.size w).alloc (Nat.le_refl _) (.cells #[.int .i64 v, .slice o L.length c] 72))
  clear hL
  go_enter Try.func47, Try.ntmps47
  go_wp2_with fail
  generalize w.alloc (.cells #[.int .i64 v, .slice o L.length c] 72) = wa at *
  go_loopw [3, 10] (fun l j wr => ∃ (q : Nat) (x : Int), q ≤ L.length ∧ j = .int .i64 q ∧ l = .int .i64 x ∧ Hid (errD 0 L = errD x (L.drop q)) ∧ wr = wa) (fun _ j _ => L.length - (intOf j).toNat)
  case atStart => exact ⟨0, 0, Nat.zero_le _, rfl, rfl, by show _ = _; simp, rfl⟩
  case round =>
    obtain ⟨q, l, hq, rfl, rfl, hE, hw⟩ := hrel
    subst hw
    by_cases hgo : q < L.length
    · obtain ⟨x, hx⟩ : ∃ x, L[q]? = some x := ⟨L[q], by simp [hgo]⟩
      obtain ⟨A, rfl, c0⟩ := HL.out q x hx
      have hE' := hE.out
      rw [drop_cons hx] at hE'
      have hp := errD_ways l x (L.drop (q + 1))
      rw [← hE'] at hp
      clear hE hE' hx
      rcases hp with ⟨h1, h3⟩ | ⟨h1, h2, h3⟩ | ⟨h1, h2, h3⟩
      all_goals
        have H3 := hide h3
        clear h3
      · go_wp2_with (go_at_call 48; refine (isId_any _ _).mono ?_; rintro e w' ⟨rfl, rfl⟩; rw [h1])
        go_ret
        exact ⟨by rw [H3.out]; rfl, HB.out⟩
      · go_wp2_with (go_at_call 48; refine (isId_any _ _).mono ?_; rintro e w' ⟨rfl, rfl⟩; rw [h1])
        go_ret
        exact ⟨by rw [H3.out]; rfl, HB.out⟩
      · go_wp2_with (go_at_call 48; refine (isId_any _ _).mono ?_; rintro e w' ⟨rfl, rfl⟩; rw [h1])
        exact ⟨⟨q + 1, x, by omega, by simp, rfl, H3, by first | rfl | trivial⟩, by simp [intOf]; omega⟩
    · have hE' := hE.out
      rw [List.drop_of_length_le (by omega)] at hE'
      have HE := hide hE'
      clear hE hE'
      go_wp2_with fail
      go_ret
      exact ⟨by rw [HE.out]; rfl, HB.out⟩

/-- what is wrong with a list -/
def chkD (v : Int) (L : List Int) : Int := if wi v 0 999 = false then 3 else if 12 < L.length then 2 else if errD 0 L = 0 then (if v < L.length then 4 else 0) else errD 0 L

theorem chkD_ways (v : Int) (L : List Int) : (wi v 0 999 = false ∧ chkD v L = 3) ∨ (wi v 0 999 = true ∧ 12 < L.length ∧ chkD v L = 2) ∨ (wi v 0 999 = true ∧ ¬ 12 < L.length ∧ errD 0 L ≠ 0 ∧ chkD v L = errD 0 L) ∨
    (wi v 0 999 = true ∧ ¬ 12 < L.length ∧ errD 0 L = 0 ∧ v < L.length ∧ chkD v L = 4) ∨ (wi v 0 999 = true ∧ ¬ 12 < L.length ∧ errD 0 L = 0 ∧ ¬ v < L.length ∧ chkD v L = 0) := by
  unfold chkD
  cases wi v 0 999
  · simp
  · by_cases h1 : 12 < L.length
    · simp [h1]
    · by_cases h2 : errD 0 L = 0
      · by_cases h3 : v < L.length <;> simp [h1, h2, h3]
      · simp [h1, h2]

set_option maxHeartbeats 1600000 in
theorem checkD_any (v : Int) (L : List Int) (o : Option Addr) (c : Nat) (w : World) (hL : IntsAt w o L) (hlen : L.length ≤ 9223372036854775807) :
    Calls Try.prog 40 #[dn v o L.length c] w fun e w' => e = .returned (.int .i64 (chkD v L)) ∧ Below w.heap.size w w' := by
  have HI := hide (fun W (h : IntsAt W o L) (h' : ¬ 12 < L.length) => checkIds_any v L o c W h (by omega))
  have hBa := (Blks.nil w).more (.cells #[.int .i64 v, .slice o L.length c] 72) (by simp)
  have HL := hide hL
  clear hL
  rcases chkD_ways v L with ⟨h1, h4⟩ | ⟨h1, h2, h4⟩ | ⟨h1, h2, h3, h4⟩ | ⟨h1, h2, h3, h5, h4⟩ | ⟨h1, h2, h3, h5, h4⟩
  all_goals
    rw [h4]
    clear h4
    have HBa := hide hBa
    clear hBa
    go_enter Try.func40, Try.ntmps40
    go_wp2_with (go_at_call 26; refine (within_any _ _ _ _).mono ?_; rintro e w' ⟨rfl, rfl⟩; rw [h1])
  · go_ret
    exact ⟨rfl, HBa.out.2.2⟩
  · go_ret
    exact ⟨rfl, HBa.out.2.2⟩
  all_goals
    refine (HI.out _ (HL.out.below HBa.out.2.2) h2).mono ?_
    rintro e w1 ⟨rfl, hb⟩
    have HB1 := hide (HBa.out.on hb)
    have c0 := HB1.out.cell 0 0 w.heap.size _ _ _ rfl rfl rfl
    have c1 := HB1.out.cell 0 1 w.heap.size _ _ _ rfl rfl rfl
    clear hb HBa
  · have h3' : (errD 0 L != 0) = true := by simpa using h3
    clear h3
    go_wp2_with fail
    go_ret
    exact ⟨rfl, HB1.out.2.2⟩
  all_goals
    rw [h3]
    clear h3
    go_wp2_with fail
    go_ret
    exact ⟨rfl, HB1.out.2.2⟩

end Go.Proofs.Ytlnmheooicancaa
