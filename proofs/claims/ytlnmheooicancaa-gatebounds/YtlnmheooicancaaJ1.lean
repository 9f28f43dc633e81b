/-
  A gate's own small checks: 'checkSelf', 'owns', 'follows', 'checkBudget', 'early', 'full' (package gate).
-/
import Derived.Test.YtlnmheooicancaaP4
import Derived.Test.YtlnmheooicancaaO3
import Derived.Test.YtlnmheooicancaaN6
namespace Go.Proofs.Ytlnmheooicancaa
open Go.RowKit

/-- the cells of a gate -/
abbrev cG (i z s : Int) (oa : Option Addr) (na ca : Nat) (v : Int) (od : Option Addr) (nd cd : Nat) (l u : Int) (T : TypeId) : Obj := .cells #[.int .i64 i, .int .i64 z, .int .i64 s, .slice oa na ca, .int .i64 v, .slice od nd cd, .int .i64 l, .int .i64 u] T

/-- what is wrong with a gate by itself -/
def errS (i z s : Int) (n : Nat) : Int := if (wi i 0 2 && wi s 0 99) = false then 3 else if isZ z = false then 9 else if 12 < n then 2 else 0

set_option maxHeartbeats 1600000 in
theorem checkSelf_any (i z s : Int) (oa : Option Addr) (na ca : Nat) (v : Int) (od : Option Addr) (nd cd : Nat) (l u : Int) (w : World) :
    Calls Try.prog 12 #[gtV i z s oa na ca v od nd cd l u] w fun e w' => e = .returned (.int .i64 (errS i z s na)) ∧ Below w.heap.size w w' := by
  generalize hE : errS i z s na = E
  have hp : (wi i 0 2 = false ∧ E = 3) ∨ (wi i 0 2 = true ∧ wi s 0 99 = false ∧ E = 3) ∨ (wi i 0 2 = true ∧ wi s 0 99 = true ∧ isZ z = false ∧ E = 9) ∨ (wi i 0 2 = true ∧ wi s 0 99 = true ∧ isZ z = true ∧ 12 < na ∧ E = 2) ∨ (wi i 0 2 = true ∧ wi s 0 99 = true ∧ isZ z = true ∧ ¬ 12 < na ∧ E = 0) := by
    rw [← hE, errS]
    cases wi i 0 2 <;> cases wi s 0 99 <;> cases isZ z <;> by_cases h : 12 < na <;> simp [h]
  clear hE
  rcases hp with ⟨h1, rfl⟩ | ⟨h1, h2, rfl⟩ | ⟨h1, h2, h3, rfl⟩ | ⟨h1, h2, h3, h4, rfl⟩ | ⟨h1, h2, h3, h4, rfl⟩
  all_goals
    go_enter Try.func12, Try.ntmps12
    go_wp2_with first | (go_at_call 26; refine (within_any _ _ _ _).mono ?_; rintro e w' ⟨rfl, rfl⟩) | (go_at_call 27; refine (oneZone_any _ _).mono ?_; rintro e w' ⟨rfl, rfl⟩)
    go_ret
    exact ⟨by simp, (Below.refl _ _).alloc (Nat.le_refl _) _⟩

theorem owns_any (i z s : Int) (oa : Option Addr) (na ca : Nat) (v : Int) (od : Option Addr) (nd cd : Nat) (l u a g q m y : Int) (w : World) :
    Calls Try.prog 29 #[gtV i z s oa na ca v od nd cd l u, tp a g q m y] w fun e w' => e = .returned (.bool (g == i && y == z)) ∧ Below w.heap.size w w' := by
  cases h1 : (g == i)
  all_goals
    go_enter Try.func29, Try.ntmps29
    go_wp2
    go_ret
    exact ⟨by simp, ((Below.refl _ _).alloc (Nat.le_refl _) _).alloc (by simp) _⟩

/-- may come right behind the last one -/
def folB (l p : TP) : Bool := decide (l.m ≤ p.m) && (p.s == l.s + 1)

theorem follows_any (l p : TP) (w : World) (h1 : 0 ≤ l.s) (h2 : l.s ≤ 99) :
    Calls Try.prog 30 #[tp l.a l.g l.s l.m l.z, tp p.a p.g p.s p.m p.z] w fun e w' => e = .returned (.bool (folB l p)) ∧ Below w.heap.size w w' := by
  unfold folB
  by_cases h : l.m ≤ p.m
  all_goals
    go_enter Try.func30, Try.ntmps30
    go_wp2
    go_ret
    exact ⟨by first | (simp [h]; done) | (simp; omega), ((Below.refl _ _).alloc (Nat.le_refl _) _).alloc (by simp) _⟩

def errB (l u : Int) : Int := if (wi l 0 9 && wi u 0 10099) = true then 0 else 3

theorem checkBudget_any (i z s : Int) (oa : Option Addr) (na ca : Nat) (v : Int) (od : Option Addr) (nd cd : Nat) (l u : Int) (w : World) :
    Calls Try.prog 15 #[gtV i z s oa na ca v od nd cd l u] w fun e w' => e = .returned (.int .i64 (errB l u)) ∧ Below w.heap.size w w' := by
  unfold errB
  cases h1 : wi l 0 9 <;> cases h2 : wi u 0 10099
  all_goals
    simp only [Bool.and_true, Bool.and_false, Bool.false_eq_true, if_false, if_true]
    go_enter Try.func15, Try.ntmps15
    go_wp2_with (go_at_call 26; refine (within_any _ _ _ _).mono ?_; rintro e w' ⟨rfl, rfl⟩)
    go_ret
    exact ⟨by simp, (Below.refl _ _).alloc (Nat.le_refl _) _⟩

def fullG (n : Nat) (s : Int) : Bool := ((n : Int) == 12) || (s == 99)

theorem fullG_any (i z s : Int) (oa : Option Addr) (na ca : Nat) (v : Int) (od : Option Addr) (nd cd : Nat) (l u : Int) (w : World) :
    Calls Try.prog 19 #[gtV i z s oa na ca v od nd cd l u] w fun e w' => e = .returned (.bool (fullG na s)) ∧ Below w.heap.size w w' := by
  unfold fullG
  cases h : ((na : Int) == 12)
  all_goals
    go_enter Try.func19, Try.ntmps19
    go_wp2
    go_ret
    exact ⟨by simp, (Below.refl _ _).alloc (Nat.le_refl _) _⟩

/-- less in time than the last one -/
def earlyG (P : List TP) (m : Int) : Bool := match P.getLast? with
  | none => false
  | some p => decide (m < p.m)

set_option maxHeartbeats 1600000 in
theorem earlyG_any (i z s : Int) (oa : Option Addr) (P : List TP) (ca : Nat) (v : Int) (od : Option Addr) (nd cd : Nat) (l u m : Int) (w : World) (hP : TapsAt w oa P) (hlen : P.length ≤ 12) :
    Calls Try.prog 33 #[gtV i z s oa P.length ca v od nd cd l u, .int .i64 m] w fun e w' => e = .returned (.bool (earlyG P m)) ∧ Below w.heap.size w w' := by
  rcases hn : P.length with _ | n
  · have hL0 : P = [] := List.eq_nil_of_length_eq_zero hn
    subst hL0
    clear hP
    go_enter Try.func33, Try.ntmps33
    go_wp2
    try (go_region; go_wp2)
    go_ret
    exact ⟨by simp [earlyG], by first | exact ((Below.refl _ _).alloc (Nat.le_refl _) _).drew | exact (Below.refl _ _).alloc (Nat.le_refl _) _⟩
  · obtain ⟨p, hp⟩ : ∃ p, P[n]? = some p := ⟨P[n]'(by omega), by simp [hn]⟩
    have HE : Hid (earlyG P m = decide (m < p.m)) := by
      show _ = _
      rw [earlyG, List.getLast?_eq_getElem?, hn, Nat.add_sub_cancel, hp]
    obtain ⟨A, rfl, h5⟩ := hP n p hp
    have hnb : n < 60 := by omega
    obtain ⟨d0, d1, d2, d3, d4⟩ := h5.below ((Below.refl w.heap.size w).alloc (Nat.le_refl _) (cG i z s (some A) (n + 1) ca v od nd cd l u 48)) h5.lt
    clear h5 hP hp hn hlen
    go_enter Try.func33, Try.ntmps33
    go_wp2
    try (go_region; go_wp2)
    go_ret
    exact ⟨by rw [HE.out]; rfl, by first | exact ((Below.refl _ _).alloc (Nat.le_refl _) _).drew | exact (Below.refl _ _).alloc (Nat.le_refl _) _⟩
end Go.Proofs.Ytlnmheooicancaa
