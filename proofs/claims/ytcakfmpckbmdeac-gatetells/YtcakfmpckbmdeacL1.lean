/-
  'cmp.Compare', 'place$1', 'slices.BinarySearchFunc', 'place' (package ledger): where a ticket of an id stands, or would.
-/
import Derived.Test.YtcakfmpckbmdeacR6
namespace Go.Proofs.Ytcakfmpckbmdeac
open Go.RowKit

theorem isNaN_any (a : Int) (w : World) : Calls Try.prog 101 #[.int .i64 a] w fun e w' => e = .returned (.bool false) ∧ w' = w := by
  go_enter Try.func101, Try.ntmps101
  go_wp2
  go_ret
  exact ⟨by simp, rfl⟩

def cmpV (a b : Int) : Int := if a < b then -1 else if b < a then 1 else 0

theorem compare_any (a b : Int) (w : World) : Calls Try.prog 83 #[.int .i64 a, .int .i64 b] w fun e w' => e = .returned (.int .i64 (cmpV a b)) ∧ w' = w := by
  have hc : (a < b ∧ cmpV a b = -1) ∨ (¬ a < b ∧ b < a ∧ cmpV a b = 1) ∨ (¬ a < b ∧ ¬ b < a ∧ cmpV a b = 0) := by
    unfold cmpV
    by_cases h1 : a < b
    · simp [h1]
    · by_cases h2 : b < a
      · simp [h1, h2]
      · simp [h1, h2]
  rcases hc with ⟨h1, h2⟩ | ⟨h1, h3, h2⟩ | ⟨h1, h3, h2⟩
  all_goals
    rw [h2]
    clear h2
    go_enter Try.func83, Try.ntmps83
    go_wp2_with (go_at_call 101; refine (isNaN_any _ _).mono ?_; rintro e w' ⟨rfl, rfl⟩)
    go_ret
    exact ⟨rfl, rfl⟩

theorem place1_any (i k f t z r id : Int) (w : World) : Calls Try.prog 82 #[tk i k f t z r, .int .i64 id] w fun e w' => e = .returned (.int .i64 (cmpV i id)) ∧ Below w.heap.size w w' := by
  go_enter Try.func82, Try.ntmps82
  go_wp2_with (go_at_call 83; refine (compare_any _ _ _).mono ?_; rintro e w' ⟨rfl, rfl⟩)
  go_ret
  exact ⟨rfl, (Below.refl _ _).alloc (Nat.le_refl _) _⟩

/-- ids rise -/
def Rising (T : List TK) : Prop := ∀ (p q : Nat) (x y : TK), T[p]? = some x → T[q]? = some y → p < q → x.i < y.i

/-- where it stands, or would -/
def posT (T : List TK) (id : Int) : Nat := T.findIdx fun x => decide (id ≤ x.i)
def hasT (T : List TK) (id : Int) : Bool := T.any fun x => x.i == id

theorem posT_of {T : List TK} {id : Int} {n : Nat} (hn : n ≤ T.length) (h1 : ∀ q x, T[q]? = some x → q < n → x.i < id) (h2 : ∀ q x, T[q]? = some x → n ≤ q → id ≤ x.i) : posT T id = n := by
  unfold posT
  rcases Nat.lt_or_ge n T.length with h | h
  · rw [List.findIdx_eq h]
    refine ⟨?_, fun j hj => ?_⟩
    · simpa using h2 n T[n] (by simp [h]) (Nat.le_refl _)
    · have := h1 j (T[j]'(by omega)) (by simp) hj
      simpa using this
  · obtain rfl : n = T.length := by omega
    rw [List.findIdx_eq_length]
    intro x hx
    obtain ⟨j, hj⟩ := List.mem_iff_getElem?.1 hx
    have := h1 j x hj (List.getElem?_eq_some_iff.1 hj).1
    simpa using this

/-- what a place says -/
theorem hasT_at {T : List TK} {id : Int} {n : Nat} {x : TK} (hr : Rising T) (hx : T[n]? = some x) (h1 : ∀ q x, T[q]? = some x → q < n → x.i < id) (h2 : ∀ q x, T[q]? = some x → n ≤ q → id ≤ x.i) : hasT T id = decide (cmpV x.i id = 0) := by
  have h3 := h2 n x hx (Nat.le_refl _)
  have e : (cmpV x.i id = 0) ↔ x.i = id := by
    unfold cmpV
    split
    · omega
    · split <;> omega
  by_cases h : x.i = id
  · rw [decide_eq_true (e.2 h), hasT, List.any_eq_true]
    exact ⟨x, List.mem_of_getElem? hx, by simpa using h⟩
  · rw [decide_eq_false (fun hh => h (e.1 hh)), hasT, List.any_eq_false]
    intro y hy
    obtain ⟨j, hj⟩ := List.mem_iff_getElem?.1 hy
    rcases Nat.lt_trichotomy j n with hjn | rfl | hjn
    · have := h1 j y hj hjn
      simp; omega
    · rw [hx] at hj
      cases hj
      simpa using h
    · have := hr n j x y hx hj hjn
      simp; omega

theorem hasT_none {T : List TK} {id : Int} (h1 : ∀ q x, T[q]? = some x → q < T.length → x.i < id) : hasT T id = false := by
  rw [hasT, List.any_eq_false]
  intro y hy
  obtain ⟨j, hj⟩ := List.mem_iff_getElem?.1 hy
  have := h1 j y hj (List.getElem?_eq_some_iff.1 hj).1
  simp; omega

set_option maxHeartbeats 3200000 in
theorem search_any (T : List TK) (id : Int) (o : Option Addr) (cap : Nat) (w : World) (hT : TiksAt w o T) (hlen : T.length ≤ 12) (hr : Rising T) :
    Calls Try.prog 81 #[.slice o T.length cap, .int .i64 id, .func (.func 82) #[] #[]] w fun e w' =>
      e = .returned (.tuple #[.int .i64 (posT T id), .bool (hasT T id)]) ∧ Below w.heap.size w w' := by
  have HT := hide hT
  have HR := hide hr
  clear hT hr
  go_enter Try.func81, Try.ntmps81
  go_wp2_with fail
  go_loopw [9, 10] (fun a b wr => ∃ (lo hi : Nat), lo ≤ hi ∧ hi ≤ T.length ∧ a = .int .i64 lo ∧ b = .int .i64 hi ∧ Hid ((∀ q x, T[q]? = some x → q < lo → x.i < id) ∧ (∀ q x, T[q]? = some x → hi ≤ q → id ≤ x.i)) ∧ Below w.heap.size w wr) (fun a b _ => (intOf b).toNat - (intOf a).toNat)
  case atStart => exact ⟨0, T.length, Nat.zero_le _, Nat.le_refl _, rfl, rfl, ⟨fun q x _ h => by omega, fun q x h hq => by have := (List.getElem?_eq_some_iff.1 h).1; omega⟩, Below.refl _ _⟩
  case round =>
    obtain ⟨lo, hi, hlh, hhn, rfl, rfl, hI, hbr⟩ := hrel
    by_cases hgo : lo < hi
    · obtain ⟨p, hp⟩ : ∃ p, T[(lo + hi) / 2]? = some p := ⟨T[(lo + hi) / 2]'(by omega), by simp⟩
      obtain ⟨A, rfl, c0, c1, c2, c3, c4, c5⟩ := (HT.out.below hbr) _ p hp
      have HP := hide hp
      clear hp
      go_wp2_with fail
      refine (place1_any _ _ _ _ _ _ _ _).mono ?_
      rintro e w3 ⟨rfl, hb3⟩
      have hbr3 := hbr.trans (hb3.mono hbr.size)
      clear hbr hb3 c0 c1 c2 c3 c4 c5
      by_cases hx : p.i < id
      · have hc : cmpV p.i id = -1 := if_pos hx
        rw [hc]
        have HI : Hid ((∀ q x, T[q]? = some x → q < (lo + hi) / 2 + 1 → x.i < id) ∧ (∀ q x, T[q]? = some x → hi ≤ q → id ≤ x.i)) := by
          refine ⟨fun q x hq hlt => ?_, hI.out.2⟩
          rcases Nat.lt_or_ge q ((lo + hi) / 2) with h | h
          · have := HR.out q _ x p hq HP.out h
            omega
          · obtain rfl : q = (lo + hi) / 2 := by omega
            rw [HP.out] at hq
            cases hq
            exact hx
        clear hc hx
        go_wp2_with fail
        exact ⟨⟨(lo + hi) / 2 + 1, hi, by omega, hhn, by simp, rfl, HI, hbr3⟩, by simp [intOf]; omega⟩
      · have hc : ¬ cmpV p.i id < 0 := by
          unfold cmpV
          rw [if_neg hx]
          split <;> omega
        have HI : Hid ((∀ q x, T[q]? = some x → q < lo → x.i < id) ∧ (∀ q x, T[q]? = some x → (lo + hi) / 2 ≤ q → id ≤ x.i)) := by
          refine ⟨hI.out.1, fun q x hq hlt => ?_⟩
          rcases Nat.lt_or_ge ((lo + hi) / 2) q with h | h
          · have := HR.out _ q p x HP.out hq h
            omega
          · obtain rfl : q = (lo + hi) / 2 := by omega
            rw [HP.out] at hq
            cases hq
            omega
        generalize cmpV p.i id = c at *
        go_wp2_with fail
        exact ⟨⟨lo, (lo + hi) / 2, by omega, by omega, rfl, by simp, HI, hbr3⟩, by simp [intOf]; omega⟩
    · obtain rfl : lo = hi := by omega
      have HPos := hide (posT_of hhn hI.out.1 hI.out.2)
      rcases Nat.lt_or_ge lo T.length with hlt | hge
      · obtain ⟨p, hp⟩ : ∃ p, T[lo]? = some p := ⟨T[lo], by simp [hlt]⟩
        obtain ⟨A, rfl, c0, c1, c2, c3, c4, c5⟩ := (HT.out.below hbr) _ p hp
        have HHas := hide (hasT_at HR.out hp hI.out.1 hI.out.2)
        clear hp
        go_wp2_with fail
        refine (place1_any _ _ _ _ _ _ _ _).mono ?_
        rintro e w3 ⟨rfl, hb3⟩
        have hbr3 := hbr.trans (hb3.mono hbr.size)
        clear hbr hb3 c0 c1 c2 c3 c4 c5
        go_wp2_with fail
        go_ret2
        refine ⟨?_, hbr3⟩
        rw [HPos.out, HHas.out]
        rfl
      · obtain rfl : lo = T.length := by omega
        have HHas := hide (hasT_none hI.out.1)
        go_wp2_with fail
        go_ret2
        refine ⟨?_, hbr⟩
        rw [HPos.out, HHas.out]
        rfl

/-- a book's ledger is laid in a box ahead of anything else -/
theorem place_any (T : List TK) (id : Int) (o1 o2 o3 : Option Addr) (c1 n2 c2 n3 c3 : Nat) (w : World) (hT : TiksAt w o1 T) (hlen : T.length ≤ 12) (hr : Rising T) :
    Calls Try.prog 42 #[lg o1 o2 o3 T.length c1 n2 c2 n3 c3, .int .i64 id] w fun e w' =>
      e = .returned (.tuple #[.int .i64 (posT T id), .bool (hasT T id)]) ∧ Below w.heap.size w w' := by
  have HS := hide (fun W (h : TiksAt W o1 T) => search_any T id o1 c1 W h hlen hr)
  have HT := hide hT
  clear hT hr hlen
  go_enter Try.func42, Try.ntmps42
  go_wp2_with fail
  refine (HS.out _ (HT.out.below ((Below.refl _ _).alloc (Nat.le_refl _) _))).mono ?_
  rintro e w3 ⟨rfl, hb3⟩
  go_wp2_with fail
  go_ret2
  exact ⟨rfl, ((Below.refl _ _).alloc (Nat.le_refl _) _).trans (hb3.mono (by simp))⟩

end Go.Proofs.Ytcakfmpckbmdeac
