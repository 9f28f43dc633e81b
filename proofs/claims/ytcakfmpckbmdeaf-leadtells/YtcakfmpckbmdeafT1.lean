/-
  Contracts of the ticket's checks: 'within', 'inRange', 'ridesFit', 'Check' (package ticket), 'between', 'CheckTicket' (the document's answer).
-/
import Derived.Test.YtcakfmpckbmdeafRows
import Derived.WalkKit
import Derived.ProofKit
import Derived.OpenShut
namespace Go.Proofs.Ytcakfmpckbmdeaf
open Go.RowKit

theorem hide {p : Prop} (h : p) : Hid p := h
theorem unhide {p : Prop} (h : Hid p) : p := h

/-- n lies from a to b -/
def wi (n a b : Int) : Bool := decide (a ≤ n) && decide (n ≤ b)

theorem wi_iff (n a b : Int) : wi n a b = true ↔ (a ≤ n ∧ n ≤ b) := by simp [wi]

theorem within_any (n a b : Int) (w : World) :
    Calls Try.prog 29 #[.int .i64 n, .int .i64 a, .int .i64 b] w fun e w' => e = .returned (.bool (wi n a b)) ∧ w' = w := by
  by_cases h1 : a ≤ n
  · go_enter Try.func29, Try.ntmps29
    go_wp2
    all_goals go_ret
    all_goals exact ⟨by simp [wi, *], rfl⟩
  · go_enter Try.func29, Try.ntmps29
    go_wp2
    all_goals go_ret
    all_goals exact ⟨by simp [wi, *]; try omega, rfl⟩

theorem between_any (n a b : Int) (w : World) :
    Calls Try.prog 23 #[.int .i64 n, .int .i64 a, .int .i64 b] w fun e w' => e = .returned (.bool (wi n a b)) ∧ w' = w := by
  by_cases h1 : a ≤ n
  · go_enter Try.func23, Try.ntmps23
    go_wp2
    all_goals go_ret
    all_goals exact ⟨by simp [wi, *], rfl⟩
  · go_enter Try.func23, Try.ntmps23
    go_wp2
    all_goals go_ret
    all_goals exact ⟨by simp [wi, *]; try omega, rfl⟩

/-- a ticket, as the model holds it -/
abbrev tk (i k f t z r : Int) : Value := .agg #[.int .i64 i, .int .i64 k, .int .i64 f, .int .i64 t, .int .i64 z, .int .i64 r]

def inR (i f t z : Int) : Bool := wi i 1 9999 && wi f 0 9999 && wi t 0 9999 && wi z 1 15
def ridesF (k r : Int) : Bool := if k = 3 then wi r 2 9 else decide (r = 0)

/-- what Check says of a ticket -/
def chk (i k f t z r : Int) : Int :=
  if inR i f t z = false then 3 else if wi k 1 3 = false then 7 else if t < f then 4 else if ridesF k r = false then 1 else 0

theorem bcell {W w1 : World} (hb : Below W.heap.size W w1) : (∀ b o, b < W.heap.size → w1.cell? ⟨b, o, none⟩ = W.cell? ⟨b, o, none⟩) ∧ (∀ b o, b < W.heap.size → w1.frozen? ⟨b, o, none⟩ = W.frozen? ⟨b, o, none⟩) :=
  ⟨fun b o h => hb.cell (p := ⟨b, o, none⟩) h, fun b o h => hb.frozen (p := ⟨b, o, none⟩) h⟩

end Go.Proofs.Ytcakfmpckbmdeaf
