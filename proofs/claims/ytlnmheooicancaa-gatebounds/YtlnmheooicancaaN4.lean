/-
  Ids that are looked for: 'IndexFunc', 'first', 'has', 'full', 'Has' (package denied), 'HasInt' (the document's answer).
-/
import Derived.Test.YtlnmheooicancaaN3
namespace Go.Proofs.Ytlnmheooicancaa
open Go.RowKit

def hasI (L : List Int) (id : Int) : Bool := L.any fun x => x == id

theorem has1_any (x id : Int) (B : Nat) (w : World) (hc : w.cell? ⟨B, 0, none⟩ = some (.int .i64 id)) :
    Calls Try.prog 50 #[.int .i64 x, .pointer (some ⟨B, 0, none⟩)] w fun e w' => e = .returned (.bool (x == id)) ∧ w' = w := by
  go_enter Try.func50, Try.ntmps50
  go_wp2
  go_ret
  exact ⟨rfl, rfl⟩

/-- the place that IndexFunc answers -/
def idxF (L : List Int) (g : Int → Bool) : Int := if L.findIdx g < L.length then (L.findIdx g : Int) else -1

theorem findIdx_at {L : List Int} {g : Int → Bool} {q : Nat} {x : Int} (h : ∀ j y, j < q → L[j]? = some y → g y = false) (hx : L[q]? = some x) (hg : g x = true) : L.findIdx g = q := by
  obtain ⟨hlt, hx'⟩ := List.getElem?_eq_some_iff.1 hx
  rw [List.findIdx_eq hlt]
  refine ⟨by rw [hx']; exact hg, fun j hj => ?_⟩
  exact h j _ hj (by simp)

theorem findIdx_none {L : List Int} {g : Int → Bool} (h : ∀ j y, j < L.length → L[j]? = some y → g y = false) : L.findIdx g = L.length := by
  rw [List.findIdx_eq_length]
  intro x hx
  obtain ⟨j, hj⟩ := List.mem_iff_getElem?.1 hx
  exact h j x (List.getElem?_eq_some_iff.1 hj).1 hj

set_option maxHeartbeats 1600000 in
theorem indexDH_any (B : Nat) (id : Int) (L : List Int) (o : Option Addr) (cap : Nat) (w : World) (hL : IntsAt w o L) (hlen : L.length ≤ 9223372036854775807) (hc : w.cell? ⟨B, 0, none⟩ = some (.int .i64 id)) :
    Calls Try.prog 51 #[.slice o L.length cap, .func (.func 50) #[] #[.pointer (some ⟨B, 0, none⟩)]] w fun e w' => e = .returned (.int .i64 (idxF L (fun x : Int => x == id))) ∧ w' = w := by
  have HL := hide hL
  have HF := hide (fun (x : Int) (W : World) h => has1_any x id B W h)
  clear hL
  go_enter Try.func51, Try.ntmps51
  go_wp2_with fail
  go_loopw [8] (fun j wr => ∃ (q : Nat), q ≤ L.length ∧ j = .int .i64 q ∧ Hid (∀ j y, j < q → L[j]? = some y → (fun x : Int => x == id) y = false) ∧ wr = w) (fun j _ => L.length - (intOf j).toNat)
  case atStart => exact ⟨0, Nat.zero_le _, rfl, fun j y h => by omega, rfl⟩
  case round =>
    obtain ⟨q, hq, rfl, hE, hw⟩ := hrel
    subst hw
    by_cases hgo : q < L.length
    · obtain ⟨x, hx⟩ : ∃ x, L[q]? = some x := ⟨L[q], by simp [hgo]⟩
      obtain ⟨A, rfl, c0⟩ := HL.out q x hx
      have HX := hide hx
      clear hx
      go_wp2_with fail
      refine (HF.out x _ hc).mono ?_
      rintro e w1 ⟨rfl, rfl⟩
      cases hg : (fun x : Int => x == id) x
      · have HN : Hid (∀ j y, j < q + 1 → L[j]? = some y → (fun x : Int => x == id) y = false) := fun j y hj hy => by
          rcases Nat.lt_or_ge j q with h | h
          · exact hE.out j y h hy
          · obtain rfl : j = q := by omega
            rw [HX.out] at hy
            cases hy
            exact hg
        go_wp2_with fail
        exact ⟨⟨q + 1, by omega, by simp, HN, by first | rfl | trivial⟩, by simp [intOf]; omega⟩
      · have HR : Hid (idxF L (fun x : Int => x == id) = q) := by
          show _ = _
          have h := findIdx_at hE.out HX.out hg
          rw [idxF, h, if_pos hgo]
        go_wp2_with fail
        go_ret
        exact ⟨by rw [HR.out]; rfl, rfl⟩
    · have HR : Hid (idxF L (fun x : Int => x == id) = -1) := by
        show _ = _
        have h := findIdx_none (L := L) (g := fun x : Int => x == id) (fun j y hj hy => hE.out j y (by omega) hy)
        rw [idxF, h, if_neg (by omega)]
      go_wp2_with fail
      go_ret
      exact ⟨by rw [HR.out]; rfl, rfl⟩

set_option maxHeartbeats 1600000 in
theorem firstH_any (B : Nat) (id v : Int) (L : List Int) (o : Option Addr) (cap : Nat) (w : World) (hL : IntsAt w o L) (hlen : L.length ≤ 9223372036854775807) (hc : w.cell? ⟨B, 0, none⟩ = some (.int .i64 id)) :
    Calls Try.prog 49 #[dn v o L.length cap, .func (.func 50) #[] #[.pointer (some ⟨B, 0, none⟩)]] w fun e w' => e = .returned (.int .i64 (L.findIdx (fun x : Int => x == id) : Int)) ∧ Below w.heap.size w w' := by
  have HB := hide ((Blks.nil w).more (.cells #[.int .i64 v, .slice o L.length cap] 72) (by simp))
  have HI := hide (fun W (h1 : IntsAt W o L) (h2 : W.cell? ⟨B, 0, none⟩ = some (.int .i64 id)) => indexDH_any B id L o cap W h1 hlen h2)
  have HL := hide (hL.below HB.out.2.2)
  have HC := hide (show (w.alloc (.cells #[.int .i64 v, .slice o L.length cap] 72)).cell? ⟨B, 0, none⟩ = some (.int .i64 id) by rw [HB.out.2.2.cell (World.block_lt_of_cell? w _ hc)]; exact hc)
  have hp : (L.findIdx (fun x : Int => x == id) < L.length ∧ idxF L (fun x : Int => x == id) = (L.findIdx (fun x : Int => x == id) : Int)) ∨ (L.findIdx (fun x : Int => x == id) = L.length ∧ idxF L (fun x : Int => x == id) = -1) := by
    have := List.findIdx_le_length (xs := L) (p := fun x : Int => x == id)
    rw [idxF]
    by_cases h : L.findIdx (fun x : Int => x == id) < L.length
    · left; simp [h]
    · right; exact ⟨by omega, by rw [if_neg h]⟩
  clear hL hc
  generalize L.findIdx (fun x : Int => x == id) = n at hp ⊢
  go_enter Try.func49, Try.ntmps49
  go_wp2_with fail
  refine (HI.out _ HL.out HC.out).mono ?_
  rintro e w1 ⟨rfl, rfl⟩
  rcases hp with ⟨h1, h2⟩ | ⟨h1, h2⟩
  · rw [h2]
    clear h2
    go_wp2_with fail
    go_ret
    exact ⟨rfl, HB.out.2.2⟩
  · rw [h2]
    clear h2
    subst h1
    go_wp2_with fail
    go_ret
    exact ⟨rfl, HB.out.2.2⟩

theorem hasI_idx (L : List Int) (id : Int) : decide ((L.findIdx fun x => x == id) < L.length) = hasI L id := by
  rw [hasI]
  cases h : L.any fun x => x == id
  · rw [List.any_eq_false] at h
    rw [(List.findIdx_eq_length).2 (fun x hx => by simpa using h x hx)]
    simp
  · rw [List.any_eq_true] at h
    obtain ⟨x, hx, he⟩ := h
    simpa using List.findIdx_lt_length_of_exists (xs := L) (p := fun x => x == id) ⟨x, hx, he⟩

set_option maxHeartbeats 1600000 in
theorem denHas_any (v id : Int) (L : List Int) (o : Option Addr) (cap : Nat) (w : World) (hL : IntsAt w o L) (hlen : L.length ≤ 9223372036854775807) :
    Calls Try.prog 44 #[dn v o L.length cap, .int .i64 id] w fun e w' => e = .returned (.bool (hasI L id)) ∧ Below w.heap.size w w' := by
  have HB := hide (((Blks.nil w).more (.cells #[.int .i64 v, .slice o L.length cap] 72) (by simp)).more (.cells #[.int .i64 id] 3) (by simp))
  have HI := hide (fun W (h1 : IntsAt W o L) (h2 : W.cell? ⟨w.heap.size + 1, 0, none⟩ = some (.int .i64 id)) => firstH_any (w.heap.size + 1) id v L o cap W h1 hlen h2)
  have HL := hide (hL.below HB.out.2.2)
  have HR := hide (hasI_idx L id)
  clear hL
  go_enter Try.func44, Try.ntmps44
  go_wp2_with fail
  refine (HI.out _ HL.out (HB.out.cell 1 0 _ _ _ _ rfl rfl rfl)).mono ?_
  rintro e w1 ⟨rfl, hb⟩
  have HB1 := hide (HB.out.on hb)
  have c0 := HB1.out.cell 0 0 w.heap.size _ _ _ rfl rfl rfl
  have c1 := HB1.out.cell 0 1 w.heap.size _ _ _ rfl rfl rfl
  clear hb HB
  generalize (L.findIdx fun x => x == id) = n at *
  go_wp2_with fail
  go_ret
  refine ⟨?_, HB1.out.2.2⟩
  rw [← HR.out]
  simp
end Go.Proofs.Ytlnmheooicancaa
