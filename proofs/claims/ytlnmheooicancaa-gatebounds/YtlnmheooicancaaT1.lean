/-
  Contracts of the ticket's checks: 'within', 'inRange', 'ridesFit', 'Check' (package ticket), 'between', 'CheckTicket' (the document's answer).
-/
import Derived.Test.YtlnmheooicancaaRows
import Derived.WalkKit
import Derived.ProofKit
import Derived.OpenShut
namespace Go.Proofs.Ytlnmheooicancaa
open Go.RowKit

theorem hide {p : Prop} (h : p) : Hid p := h
theorem unhide {p : Prop} (h : Hid p) : p := h

/-- n lies from a to b -/
def wi (n a b : Int) : Bool := decide (a ≤ n) && decide (n ≤ b)

theorem wi_iff (n a b : Int) : wi n a b = true ↔ (a ≤ n ∧ n ≤ b) := by simp [wi]

set_option maxRecDepth 100000 in
theorem within_any (n a b : Int) (w : World) :
    Calls Try.prog 26 #[.int .i64 n, .int .i64 a, .int .i64 b] w fun e w' => e = .returned (.bool (wi n a b)) ∧ w' = w := by
  by_cases h1 : a ≤ n
  · go_enter Try.func26, Try.ntmps26
    go_wp2
    all_goals go_ret
    all_goals exact ⟨by simp [wi, *], rfl⟩
  · go_enter Try.func26, Try.ntmps26
    go_wp2
    all_goals go_ret
    all_goals exact ⟨by simp [wi, *]; try omega, rfl⟩

set_option maxRecDepth 100000 in
theorem isTime_any (n : Int) (w : World) :
    Calls Try.prog 23 #[.int .i64 n] w fun e w' => e = .returned (.bool (wi n 0 9999)) ∧ w' = w := by
  go_enter Try.func23, Try.ntmps23
  go_wp2_with fail
  refine (within_any _ _ _ _).mono ?_
  rintro e w1 ⟨rfl, rfl⟩
  go_wp2_with fail
  go_ret
  exact ⟨rfl, rfl⟩

/-- a ticket, as the model holds it -/
abbrev tk (i k f t z r : Int) : Value := .agg #[.int .i64 i, .int .i64 k, .int .i64 f, .int .i64 t, .int .i64 z, .int .i64 r]

def inR (i f t z : Int) : Bool := wi i 1 9999 && wi f 0 9999 && wi t 0 9999 && wi z 1 15
def ridesF (k r : Int) : Bool := if k = 3 then wi r 2 9 else decide (r = 0)

set_option maxRecDepth 100000 in
theorem inRange_any (i k f t z r : Int) (w : World) :
    Calls Try.prog 41 #[tk i k f t z r] w fun e w' => e = .returned (.bool (inR i f t z)) ∧ Below w.heap.size w w' := by
  cases h1 : wi i 1 9999 <;> cases h2 : wi f 0 9999 <;> cases h3 : wi t 0 9999
  all_goals
    go_enter Try.func41, Try.ntmps41
    go_wp2_with first | (go_at_call 26; refine (within_any _ _ _ _).mono ?_; rintro e w' ⟨rfl, rfl⟩) | (go_at_call 23; refine (isTime_any _ _).mono ?_; rintro e w' ⟨rfl, rfl⟩)
    go_ret
    exact ⟨by simp [inR, *], (Below.refl _ _).alloc (Nat.le_refl _) _⟩

set_option maxRecDepth 100000 in
theorem ridesFit_any (i k f t z r : Int) (w : World) :
    Calls Try.prog 42 #[tk i k f t z r] w fun e w' => e = .returned (.bool (ridesF k r)) ∧ Below w.heap.size w w' := by
  by_cases h1 : k = 3
  · have h1' : (k == 3) = true := by simpa using h1
    have H := (show Hid (k = 3) from h1)
    clear h1
    go_enter Try.func42, Try.ntmps42
    go_wp2_with (go_at_call 26; refine (within_any _ _ _ _).mono ?_; rintro e w' ⟨rfl, rfl⟩)
    go_ret
    exact ⟨by simp [ridesF, H.out], (Below.refl _ _).alloc (Nat.le_refl _) _⟩
  · have h1' : (k == 3) = false := by simpa using h1
    go_enter Try.func42, Try.ntmps42
    go_wp2_with (go_at_call 26; refine (within_any _ _ _ _).mono ?_; rintro e w' ⟨rfl, rfl⟩)
    go_ret
    exact ⟨by simp [ridesF, h1]; try rfl, (Below.refl _ _).alloc (Nat.le_refl _) _⟩

/-- what Check says of a ticket -/
def chk (i k f t z r : Int) : Int :=
  if inR i f t z = false then 3 else if wi k 1 3 = false then 7 else if t < f then 4 else if ridesF k r = false then 1 else 0

theorem bcell {W w1 : World} (hb : Below W.heap.size W w1) : (∀ b o, b < W.heap.size → w1.cell? ⟨b, o, none⟩ = W.cell? ⟨b, o, none⟩) ∧ (∀ b o, b < W.heap.size → w1.frozen? ⟨b, o, none⟩ = W.frozen? ⟨b, o, none⟩) :=
  ⟨fun b o h => hb.cell (p := ⟨b, o, none⟩) h, fun b o h => hb.frozen (p := ⟨b, o, none⟩) h⟩

set_option maxRecDepth 100000 in
theorem check_any (i k f t z r : Int) (w : World) :
    Calls Try.prog 32 #[tk i k f t z r] w fun e w' => e = .returned (.int .i64 (chk i k f t z r)) ∧ Below w.heap.size w w' := by
  cases h1 : inR i f t z
  · go_enter Try.func32, Try.ntmps32
    go_wp2_with fail
    refine (inRange_any _ _ _ _ _ _ _).mono ?_
    rintro e w1 ⟨rfl, hb⟩
    obtain ⟨hc, hf⟩ := bcell hb
    go_wp2_with fail
    go_ret
    exact ⟨by simp [chk, h1], ((Below.refl _ _).alloc (Nat.le_refl _) _).trans (hb.mono (by simp))⟩
  · cases h2 : wi k 1 3
    · go_enter Try.func32, Try.ntmps32
      go_wp2_with fail
      refine (inRange_any _ _ _ _ _ _ _).mono ?_
      rintro e w1 ⟨rfl, hb⟩
      obtain ⟨hc, hf⟩ := bcell hb
      go_wp2_with fail
      refine (within_any _ _ _ _).mono ?_
      rintro e w2 ⟨rfl, rfl⟩
      go_wp2_with fail
      go_ret
      exact ⟨by simp [chk, h1, h2], ((Below.refl _ _).alloc (Nat.le_refl _) _).trans (hb.mono (by simp))⟩
    · by_cases h3 : t < f
      · go_enter Try.func32, Try.ntmps32
        go_wp2_with fail
        refine (inRange_any _ _ _ _ _ _ _).mono ?_
        rintro e w1 ⟨rfl, hb⟩
        obtain ⟨hc, hf⟩ := bcell hb
        go_wp2_with fail
        refine (within_any _ _ _ _).mono ?_
        rintro e w2 ⟨rfl, rfl⟩
        go_wp2_with fail
        go_ret
        exact ⟨by simp [chk, h1, h2, h3], ((Below.refl _ _).alloc (Nat.le_refl _) _).trans (hb.mono (by simp))⟩
      · cases h4 : ridesF k r
        all_goals
          go_enter Try.func32, Try.ntmps32
          go_wp2_with fail
          refine (inRange_any _ _ _ _ _ _ _).mono ?_
          rintro e w1 ⟨rfl, hb⟩
          obtain ⟨hc, hf⟩ := bcell hb
          go_wp2_with fail
          refine (within_any _ _ _ _).mono ?_
          rintro e w2 ⟨rfl, rfl⟩
          go_wp2_with fail
          refine (ridesFit_any _ _ _ _ _ _ _).mono ?_
          rintro e w3 ⟨rfl, hb2⟩
          go_wp2_with fail
          go_ret
          exact ⟨by simp [chk, h1, h2, h3, h4], (((Below.refl _ _).alloc (Nat.le_refl _) _).trans (hb.mono (by simp))).trans (hb2.mono (by have := hb.size; simp at this; omega))⟩
end Go.Proofs.Ytlnmheooicancaa
