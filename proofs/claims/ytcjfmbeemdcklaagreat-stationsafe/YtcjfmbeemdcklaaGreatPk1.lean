/-
  Texts joined: T1, T12, R1, R2, P1, R3, P2, P3, R4, P4, R5, O1, R6, L1, L2, L3, K1, O3, G0, N1, N3, N4, K2, K3, K4, H1, N5, N6, J1, J2.
-/
import Derived.Test.YtcjfmbeemdcklaaGreatRows
import Derived.WalkKit
import Derived.ProofKit
import Derived.OpenShut
import Derived.Carry
import Derived.Deep.Slices
import Derived.OwnWalk
import Derived.Laws.AppendOwnNone
import Derived.Lib.SliceRun
import Derived.Lib.AppendZeros
import Derived.OrdersHeld
import Derived.Lib.QuietBelow
/-
  Contracts of the ticket's checks: 'within', 'inRange', 'ridesFit', 'Check' (package ticket), 'between', 'CheckTicket' (the document's answer).
-/
namespace Go.Proofs.YtcjfmbeemdcklaaGreat
open Go.RowKit
theorem hide {p : Prop} (h : p) : Hid p := h
def wi (n a b : Int) : Bool := decide (a ≤ n) && decide (n ≤ b)
theorem wi_iff (n a b : Int) : wi n a b = true ↔ (a ≤ n ∧ n ≤ b) := by simp [wi]
set_option maxRecDepth 100000 in
theorem within_any (n a b : Int) (w : World) :
    Calls Tryz.prog 137 #[.int .i64 n, .int .i64 a, .int .i64 b] w fun e w' => e = .returned (.bool (wi n a b)) ∧ w' = w := by
  by_cases h1 : a ≤ n
  · go_enter Tryz.func137, Tryz.ntmps137
    go_wp2
    all_goals go_ret
    all_goals exact ⟨by simp [wi, *], rfl⟩
  · go_enter Tryz.func137, Tryz.ntmps137
    go_wp2
    all_goals go_ret
    all_goals exact ⟨by simp [wi, *]; try omega, rfl⟩
set_option maxRecDepth 100000 in
theorem isTime_any (n : Int) (w : World) :
    Calls Tryz.prog 130 #[.int .i64 n] w fun e w' => e = .returned (.bool (wi n 0 9999)) ∧ w' = w := by
  go_enter Tryz.func130, Tryz.ntmps130
  go_wp2_with fail
  refine (within_any _ _ _ _).mono ?_
  rintro e w1 ⟨rfl, rfl⟩
  go_wp2_with fail
  go_ret
  exact ⟨rfl, rfl⟩
abbrev tk (i k f t z r : Int) : Value := .agg #[.int .i64 i, .int .i64 k, .int .i64 f, .int .i64 t, .int .i64 z, .int .i64 r]
def inR (i f t z : Int) : Bool := wi i 1 9999 && wi f 0 9999 && wi t 0 9999 && wi z 1 15
def ridesF (k r : Int) : Bool := if k = 3 then wi r 2 9 else decide (r = 0)
set_option maxRecDepth 100000 in
theorem inRange_any (i k f t z r : Int) (w : World) :
    Calls Tryz.prog 166 #[tk i k f t z r] w fun e w' => e = .returned (.bool (inR i f t z)) ∧ Below w.heap.size w w' := by
  cases h1 : wi i 1 9999 <;> cases h2 : wi f 0 9999 <;> cases h3 : wi t 0 9999
  all_goals
    go_enter Tryz.func166, Tryz.ntmps166
    go_wp2_with first | (go_at_call 137; refine (within_any _ _ _ _).mono ?_; rintro e w' ⟨rfl, rfl⟩) | (go_at_call 130; refine (isTime_any _ _).mono ?_; rintro e w' ⟨rfl, rfl⟩)
    go_ret
    exact ⟨by simp [inR, *], (Below.refl _ _).alloc (Nat.le_refl _) _⟩
set_option maxRecDepth 100000 in
theorem ridesFit_any (i k f t z r : Int) (w : World) :
    Calls Tryz.prog 167 #[tk i k f t z r] w fun e w' => e = .returned (.bool (ridesF k r)) ∧ Below w.heap.size w w' := by
  by_cases h1 : k = 3
  · have h1' : (k == 3) = true := by simpa using h1
    have H := (show Hid (k = 3) from h1)
    clear h1
    go_enter Tryz.func167, Tryz.ntmps167
    go_wp2_with (go_at_call 137; refine (within_any _ _ _ _).mono ?_; rintro e w' ⟨rfl, rfl⟩)
    go_ret
    exact ⟨by simp [ridesF, H.out], (Below.refl _ _).alloc (Nat.le_refl _) _⟩
  · have h1' : (k == 3) = false := by simpa using h1
    go_enter Tryz.func167, Tryz.ntmps167
    go_wp2_with (go_at_call 137; refine (within_any _ _ _ _).mono ?_; rintro e w' ⟨rfl, rfl⟩)
    go_ret
    exact ⟨by simp [ridesF, h1]; try rfl, (Below.refl _ _).alloc (Nat.le_refl _) _⟩
def chk (i k f t z r : Int) : Int :=
  if inR i f t z = false then 3 else if wi k 1 3 = false then 7 else if t < f then 4 else if ridesF k r = false then 1 else 0
theorem bcell {W w1 : World} (hb : Below W.heap.size W w1) : (∀ b o, b < W.heap.size → w1.cell? ⟨b, o, none⟩ = W.cell? ⟨b, o, none⟩) ∧ (∀ b o, b < W.heap.size → w1.frozen? ⟨b, o, none⟩ = W.frozen? ⟨b, o, none⟩) :=
  ⟨fun b o h => hb.cell (p := ⟨b, o, none⟩) h, fun b o h => hb.frozen (p := ⟨b, o, none⟩) h⟩
set_option maxRecDepth 100000 in
theorem check_any (i k f t z r : Int) (w : World) :
    Calls Tryz.prog 135 #[tk i k f t z r] w fun e w' => e = .returned (.int .i64 (chk i k f t z r)) ∧ Below w.heap.size w w' := by
  cases h1 : inR i f t z
  · go_enter Tryz.func135, Tryz.ntmps135
    go_wp2_with fail
    refine (inRange_any _ _ _ _ _ _ _).mono ?_
    rintro e w1 ⟨rfl, hb⟩
    obtain ⟨hc, hf⟩ := bcell hb
    go_wp2_with fail
    go_ret
    exact ⟨by simp [chk, h1], ((Below.refl _ _).alloc (Nat.le_refl _) _).trans (hb.mono (by simp))⟩
  · cases h2 : wi k 1 3
    · go_enter Tryz.func135, Tryz.ntmps135
      go_wp2_with fail
      refine (inRange_any _ _ _ _ _ _ _).mono ?_
      rintro e w1 ⟨rfl, hb⟩
      obtain ⟨hc, hf⟩ := bcell hb
      go_wp2_with fail
      refine (within_any _ _ _ _).mono ?_
      rintro e w2 ⟨rfl, rfl⟩
      go_wp2_with fail
      go_ret
      exact ⟨by simp [chk, h1, h2], ((Below.refl _ _).alloc (Nat.le_refl _) _).trans (hb.mono (by simp))⟩
    · by_cases h3 : t < f
      · go_enter Tryz.func135, Tryz.ntmps135
        go_wp2_with fail
        refine (inRange_any _ _ _ _ _ _ _).mono ?_
        rintro e w1 ⟨rfl, hb⟩
        obtain ⟨hc, hf⟩ := bcell hb
        go_wp2_with fail
        refine (within_any _ _ _ _).mono ?_
        rintro e w2 ⟨rfl, rfl⟩
        go_wp2_with fail
        go_ret
        exact ⟨by simp [chk, h1, h2, h3], ((Below.refl _ _).alloc (Nat.le_refl _) _).trans (hb.mono (by simp))⟩
      · cases h4 : ridesF k r
        all_goals
          go_enter Tryz.func135, Tryz.ntmps135
          go_wp2_with fail
          refine (inRange_any _ _ _ _ _ _ _).mono ?_
          rintro e w1 ⟨rfl, hb⟩
          obtain ⟨hc, hf⟩ := bcell hb
          go_wp2_with fail
          refine (within_any _ _ _ _).mono ?_
          rintro e w2 ⟨rfl, rfl⟩
          go_wp2_with fail
          refine (ridesFit_any _ _ _ _ _ _ _).mono ?_
          rintro e w3 ⟨rfl, hb2⟩
          go_wp2_with fail
          go_ret
          exact ⟨by simp [chk, h1, h2, h3, h4], (((Below.refl _ _).alloc (Nat.le_refl _) _).trans (hb.mono (by simp))).trans (hb2.mono (by have := hb.size; simp at this; omega))⟩
end Go.Proofs.YtcjfmbeemdcklaaGreat

/-
  The document's answers: 'CheckTicket', 'TicketBytes' (package leeboardref).
-/
namespace Go.Proofs.YtcjfmbeemdcklaaGreat
open Go.RowKit
end Go.Proofs.YtcjfmbeemdcklaaGreat

/-
  The document's answers on taps: 'IsZone', 'CheckTap', 'PlaceOf', 'JudgeOf' (package leeboardref).
-/
namespace Go.Proofs.YtcjfmbeemdcklaaGreat
open Go.RowKit
abbrev tp (a g s m z : Int) : Value := .agg #[.int .i64 a, .int .i64 g, .int .i64 s, .int .i64 m, .int .i64 z]
def isZ (n : Int) : Bool := n == 1 || n == 2 || n == 4 || n == 8
def chkP (a g s m z : Int) : Int :=
  if (wi a 1 9999 && wi g 0 2 && wi s 1 99 && wi m 0 9999) = false then 3 else if isZ z = false then 9 else 0
end Go.Proofs.YtcjfmbeemdcklaaGreat

/-
  The document's answers on taps: 'PlaceOf', 'JudgeOf' (package leeboardref).
-/
namespace Go.Proofs.YtcjfmbeemdcklaaGreat
open Go.RowKit
def place (f t z m zone : Int) : Int := if wi m f t = false then 8 else if z / zone % 2 = 0 then 9 else 0
def judge (k f t z r last rides m zone : Int) : Int × Int :=
  if place f t z m zone ≠ 0 then (3, place f t z m zone)
  else if 0 ≤ last ∧ last ≤ m ∧ m < last + 60 then (2, 0)
  else if (k = 1 ∧ 0 < rides) ∨ (k = 3 ∧ r ≤ rides) then (3, 10) else (1, 0)
end Go.Proofs.YtcjfmbeemdcklaaGreat

/-
  The rule's own checks: 'inRange', 'oneZone', 'Check', 'shut', 'spent' (package rule).
-/
namespace Go.Proofs.YtcjfmbeemdcklaaGreat
open Go.RowKit
theorem oneZone_any (n : Int) (w : World) :
    Calls Tryz.prog 155 #[.int .i64 n] w fun e w' => e = .returned (.bool (isZ n)) ∧ w' = w := by
  cases h1 : (n == 1) <;> cases h2 : (n == 2) <;> cases h3 : (n == 4) <;> cases h4 : (n == 8)
  all_goals
    go_enter Tryz.func155, Tryz.ntmps155
    go_wp2
    go_ret
    exact ⟨by simp [isZ, *], rfl⟩
def inP (a g s m : Int) : Bool := wi a 1 9999 && wi g 0 2 && wi s 1 99 && wi m 0 9999
theorem inRangeP_any (a g s m z : Int) (w : World) :
    Calls Tryz.prog 154 #[tp a g s m z] w fun e w' => e = .returned (.bool (inP a g s m)) ∧ Below w.heap.size w w' := by
  cases h1 : wi a 1 9999 <;> cases h2 : wi g 0 2 <;> cases h3 : wi s 1 99
  all_goals
    go_enter Tryz.func154, Tryz.ntmps154
    go_wp2_with first | (go_at_call 137; refine (within_any _ _ _ _).mono ?_; rintro e w' ⟨rfl, rfl⟩) | (go_at_call 130; refine (isTime_any _ _).mono ?_; rintro e w' ⟨rfl, rfl⟩)
    go_ret
    exact ⟨by simp [inP, *], (Below.refl _ _).alloc (Nat.le_refl _) _⟩
theorem checkP_any (a g s m z : Int) (w : World) :
    Calls Tryz.prog 116 #[tp a g s m z] w fun e w' => e = .returned (.int .i64 (chkP a g s m z)) ∧ Below w.heap.size w w' := by
  generalize hC : chkP a g s m z = C
  have hc : (inP a g s m = false ∧ C = 3) ∨ (inP a g s m = true ∧ isZ z = false ∧ C = 9) ∨ (inP a g s m = true ∧ isZ z = true ∧ C = 0) := by
    rw [← hC]
    rw [chkP, show (wi a 1 9999 && wi g 0 2 && wi s 1 99 && wi m 0 9999) = inP a g s m from rfl]
    cases inP a g s m <;> cases isZ z <;> simp
  clear hC
  rcases hc with ⟨h1, rfl⟩ | ⟨h1, h2, rfl⟩ | ⟨h1, h2, rfl⟩
  · go_enter Tryz.func116, Tryz.ntmps116
    go_wp2_with fail
    refine (inRangeP_any _ _ _ _ _ _).mono ?_
    rintro e w1 ⟨rfl, hb⟩
    obtain ⟨hc, hf⟩ := bcell hb
    go_wp2_with fail
    go_ret
    exact ⟨rfl, ((Below.refl _ _).alloc (Nat.le_refl _) _).trans (hb.mono (by simp))⟩
  all_goals
    go_enter Tryz.func116, Tryz.ntmps116
    go_wp2_with fail
    refine (inRangeP_any _ _ _ _ _ _).mono ?_
    rintro e w1 ⟨rfl, hb⟩
    obtain ⟨hc, hf⟩ := bcell hb
    go_wp2_with fail
    refine (oneZone_any _ _).mono ?_
    rintro e w2 ⟨rfl, rfl⟩
    go_wp2_with fail
    go_ret
    exact ⟨rfl, ((Below.refl _ _).alloc (Nat.le_refl _) _).trans (hb.mono (by simp))⟩
def spent (k r rides : Int) : Bool := decide ((k = 1 ∧ 0 < rides) ∨ (k = 3 ∧ r ≤ rides))
set_option maxHeartbeats 1600000 in
theorem spent_any (i k f t z r rides : Int) (w : World) :
    Calls Tryz.prog 200 #[tk i k f t z r, .int .i64 rides] w fun e w' => e = .returned (.bool (spent k r rides)) ∧ Below w.heap.size w w' := by
  generalize hS : spent k r rides = S
  unfold spent at hS
  have hk : ((k == 1) = true ∧ S = decide (1 ≤ rides)) ∨ ((k == 1) = false ∧ (k == 3) = true ∧ S = decide (r ≤ rides)) ∨ ((k == 1) = false ∧ (k == 3) = false ∧ S = false) := by
    rw [← hS]
    by_cases k1 : k = 1
    · subst k1; simp; omega
    · by_cases k3 : k = 3
      · subst k3; simp
      · simp [k1, k3]
  clear hS
  rcases hk with ⟨k1, rfl⟩ | ⟨k1, k2, rfl⟩ | ⟨k1, k2, rfl⟩
  all_goals
    go_enter Tryz.func200, Tryz.ntmps200
    go_wp2_with fail
    go_ret
    exact ⟨rfl, (Below.refl _ _).alloc (Nat.le_refl _) _⟩
theorem and_zone (z zone : Int) (hz : 0 ≤ z) (hz2 : z ≤ 15) (hzone : isZ zone = true) : (bits BinOp.and IntKind.i64 z zone == 0) = decide (z / zone % 2 = 0) := by
  have hq : zone = 1 ∨ zone = 2 ∨ zone = 4 ∨ zone = 8 := by simpa [isZ, or_assoc] using hzone
  obtain ⟨n, rfl⟩ := Int.eq_ofNat_of_zero_le hz
  have hn : n < 16 := by omega
  have key : ∀ n : Fin 16, ∀ q ∈ [(1 : Int), 2, 4, 8], (bits BinOp.and IntKind.i64 (n.val : Int) q == 0) = decide (((n.val : Int)) / q % 2 = 0) := by decide +kernel
  exact key ⟨n, hn⟩ zone (by simpa using hq)
set_option maxHeartbeats 1600000 in
theorem shut_any (i k f t z r a g s m zone : Int) (w : World) (hz : 0 ≤ z) (hz2 : z ≤ 15) (hzone : isZ zone = true) :
    Calls Tryz.prog 198 #[tk i k f t z r, tp a g s m zone] w fun e w' => e = .returned (.int .i64 (place f t z m zone)) ∧ Below w.heap.size w w' := by
  have hand := and_zone z zone hz hz2 hzone
  generalize hC : place f t z m zone = C
  have hc : (wi m f t = false ∧ C = 8) ∨ (wi m f t = true ∧ (bits BinOp.and IntKind.i64 z zone == 0) = true ∧ C = 9) ∨ (wi m f t = true ∧ (bits BinOp.and IntKind.i64 z zone == 0) = false ∧ C = 0) := by
    rw [hand, ← hC]
    unfold place
    cases wi m f t <;> by_cases h : z / zone % 2 = 0 <;> simp [h]
  clear hC hand
  rcases hc with ⟨h1, rfl⟩ | ⟨h1, h2, rfl⟩ | ⟨h1, h2, rfl⟩
  all_goals
    go_enter Tryz.func198, Tryz.ntmps198
    go_wp2_with (go_at_call 137; refine (within_any _ _ _ _).mono ?_; rintro e w' ⟨rfl, rfl⟩)
    go_ret
    exact ⟨rfl, ((Below.refl _ _).alloc (Nat.le_refl _) _).alloc (by simp) _⟩
end Go.Proofs.YtcjfmbeemdcklaaGreat

/-
  The document's answers on taps: 'CheckJudge' (package leeboardref): taps that lie in memory.
-/
namespace Go.Proofs.YtcjfmbeemdcklaaGreat
open Go.RowKit
structure TP where
  a : Int
  g : Int
  s : Int
  m : Int
  z : Int
structure Tap5 (w : World) (b : Addr) (p : TP) : Prop where
  c0 : w.cell? b = some (.int .i64 p.a)
  c1 : w.cell? ⟨b.block, b.off + 1, none⟩ = some (.int .i64 p.g)
  c2 : w.cell? ⟨b.block, b.off + 2, none⟩ = some (.int .i64 p.s)
  c3 : w.cell? ⟨b.block, b.off + 3, none⟩ = some (.int .i64 p.m)
  c4 : w.cell? ⟨b.block, b.off + 4, none⟩ = some (.int .i64 p.z)
theorem Tap5.lt {w : World} {b : Addr} {p : TP} (h : Tap5 w b p) : b.block < w.heap.size := World.block_lt_of_cell? w b h.c0
theorem Tap5.below {B : Nat} {w w' : World} {b : Addr} {p : TP} (h : Tap5 w b p) (hb : Below B w w') (hlt : b.block < B) : Tap5 w' b p :=
  ⟨by rw [hb.cell hlt]; exact h.c0, by rw [hb.cell (p := ⟨b.block, b.off + 1, none⟩) hlt]; exact h.c1, by rw [hb.cell (p := ⟨b.block, b.off + 2, none⟩) hlt]; exact h.c2,
    by rw [hb.cell (p := ⟨b.block, b.off + 3, none⟩) hlt]; exact h.c3, by rw [hb.cell (p := ⟨b.block, b.off + 4, none⟩) hlt]; exact h.c4⟩
def TapsAt (w : World) (o : Option Addr) (L : List TP) : Prop := ∀ i p, L[i]? = some p → ∃ b, o = some b ∧ Tap5 w (b.add (i * 5)) p
theorem TapsAt.below {w w' : World} {o : Option Addr} {L : List TP} (h : TapsAt w o L) (hb : Below w.heap.size w w') : TapsAt w' o L :=
  fun i p hi => have ⟨b, e, h5⟩ := h i p hi; ⟨b, e, h5.below hb h5.lt⟩
def chkT (p : TP) : Int := chkP p.a p.g p.s p.m p.z
def misT (i : Int) (p : TP) : Int := if p.a = i then 0 else 4
def firstE : List Int → Int
  | [] => 0
  | e :: l => if e = 0 then firstE l else e
theorem firstE_snoc (l : List Int) (x : Int) : firstE (l ++ [x]) = if firstE l = 0 then x else firstE l := by
  induction l with
  | nil => by_cases h : x = 0 <;> simp [firstE, h]
  | cons e l ih =>
    by_cases h : e = 0
    · simp [firstE, h, ih]
    · simp [firstE, h]
theorem firstE_stop (l k : List Int) (h : firstE l ≠ 0) : firstE (l ++ k) = firstE l := by
  induction l with
  | nil => exact absurd rfl h
  | cons e l ih =>
    by_cases he : e = 0
    · simp [firstE, he] at h ⊢
      exact ih h
    · simp [firstE, he]
theorem firstE_append (l k : List Int) : firstE (l ++ k) = firstE (firstE l :: k) := by
  by_cases h : firstE l = 0
  · rw [h]
    induction l with
    | nil => simp [firstE]
    | cons e l ih =>
      by_cases he : e = 0
      · simp [firstE, he] at h ih ⊢
        exact ih h
      · simp [firstE, he] at h
  · rw [firstE_stop _ _ h]
    simp [firstE, h]
def errJ (i k f t z r rides : Int) (p : TP) (L : List TP) : Int :=
  firstE ([chk i k f t z r, chkT p, if wi rides 0 60 = true then 0 else 3] ++ L.map chkT ++ [misT i p] ++ L.map (misT i))
end Go.Proofs.YtcjfmbeemdcklaaGreat

/-
  What is looked for by a function literal: 'slices.IndexFunc', 'slices.ContainsFunc' of taps with the literal of 'wrong' (package rule).
-/
namespace Go.Proofs.YtcjfmbeemdcklaaGreat
open Go.RowKit
theorem wrong1_any (a g s m z i : Int) (B : Nat) (w : World) (hc : w.cell? ⟨B, 0, none⟩ = some (.int .i64 i)) :
    Calls Tryz.prog 202 #[tp a g s m z, .pointer (some ⟨B, 0, none⟩)] w fun e w' => e = .returned (.bool (a != i)) ∧ Below w.heap.size w w' := by
  have hlt := World.block_lt_of_cell? w ⟨B, 0, none⟩ hc
  go_enter Tryz.func202, Tryz.ntmps202
  go_wp2_with fail
  go_ret
  exact ⟨rfl, (Below.refl _ _).alloc (Nat.le_refl _) _⟩
theorem indexW_any (i : Int) (B : Nat) (o : Option Addr) (cap : Nat) (L : List TP) (w : World) (hL : TapsAt w o L) (hlen : L.length ≤ 9223372036854775807) (hc : w.cell? ⟨B, 0, none⟩ = some (.int .i64 i)) :
    Calls Tryz.prog 168 #[.slice o L.length cap, .func (.func 202) #[] #[.pointer (some ⟨B, 0, none⟩)]] w fun e w' =>
      (∃ n : Int, e = .returned (.int .i64 n) ∧ decide (0 ≤ n) = L.any (fun p => p.a != i)) ∧ Below w.heap.size w w' := by
  have HL := hide hL
  clear hL
  have hlt := World.block_lt_of_cell? w ⟨B, 0, none⟩ hc
  go_enter Tryz.func168, Tryz.ntmps168
  go_wp2_with fail
  go_loopw [8] (fun j wr => ∃ (q : Nat), q ≤ L.length ∧ j = .int .i64 q ∧ Hid ((L.take q).any (fun p => p.a != i) = false) ∧ Below w.heap.size w wr) (fun j _ => L.length - (intOf j).toNat)
  case atStart => exact ⟨0, Nat.zero_le _, rfl, by show _ = _; simp, Below.refl _ _⟩
  case round =>
    obtain ⟨q, hq, rfl, hF, hbr⟩ := hrel
    have c' : wr.cell? ⟨B, 0, none⟩ = some (.int .i64 i) := by rw [hbr.cell (p := ⟨B, 0, none⟩) hlt]; exact hc
    by_cases hgo : q < L.length
    · obtain ⟨p, hp⟩ : ∃ p, L[q]? = some p := ⟨L[q], by simp [hgo]⟩
      have HS : Hid ((L.take (q + 1)).any (fun p => p.a != i) = (p.a != i)) := by
        show _ = _
        rw [List.take_add_one, hp, Option.toList_some, List.any_append, hF.out]
        simp
      obtain ⟨A, rfl, c0, c1, c2, c3, c4⟩ := (HL.out.below hbr) q p hp
      have HP := hide hp
      clear hp
      go_wp2_with fail
      refine (wrong1_any _ _ _ _ _ i B _ c').mono ?_
      rintro e w3 ⟨rfl, hb3⟩
      have hbr3 := hbr.trans (hb3.mono hbr.size)
      clear hbr hb3 c'
      cases hx : (p.a != i)
      · rw [hx] at HS
        go_wp2_with fail
        exact ⟨⟨q + 1, by omega, by simp, HS, hbr3⟩, by simp [intOf]; omega⟩
      · go_wp2_with fail
        go_ret
        refine ⟨⟨q, rfl, ?_⟩, hbr3⟩
        have hp := HP.out
        have : L.any (fun p => p.a != i) = true := by
          rw [List.any_eq_true]
          exact ⟨p, List.mem_of_getElem? hp, hx⟩
        simp [this]
    · go_wp2_with fail
      go_ret
      refine ⟨⟨-1, rfl, ?_⟩, hbr⟩
      have h1 := hF.out
      rw [List.take_of_length_le (by omega)] at h1
      simp [h1]
theorem containsW_any (i : Int) (B : Nat) (o : Option Addr) (cap : Nat) (L : List TP) (w : World) (hL : TapsAt w o L) (hlen : L.length ≤ 9223372036854775807) (hc : w.cell? ⟨B, 0, none⟩ = some (.int .i64 i)) :
    Calls Tryz.prog 139 #[.slice o L.length cap, .func (.func 202) #[] #[.pointer (some ⟨B, 0, none⟩)]] w fun e w' =>
      e = .returned (.bool (L.any (fun p => p.a != i))) ∧ Below w.heap.size w w' := by
  have HI := hide (indexW_any i B o cap L w hL hlen hc)
  clear hL hc
  go_enter Tryz.func139, Tryz.ntmps139
  go_wp2_with fail
  refine HI.out.mono ?_
  rintro e w' ⟨⟨n, rfl, hn⟩, hb⟩
  have HN := hide hn
  clear hn
  go_wp2_with fail
  go_ret
  exact ⟨by rw [← HN.out]; rfl, hb⟩
end Go.Proofs.YtcjfmbeemdcklaaGreat

/-
  'wrong' (package rule): why there is nothing to judge.
-/
namespace Go.Proofs.YtcjfmbeemdcklaaGreat
open Go.RowKit
theorem firstE_mis (i : Int) (L : List TP) : firstE (L.map (misT i)) = if L.any (fun p => p.a != i) = true then 4 else 0 := by
  induction L with
  | nil => simp [firstE]
  | cons p L ih =>
    by_cases h : p.a = i
    · simp only [List.map_cons, firstE, misT, h, if_true, List.any_cons]
      rw [show (misT i) = misT i from rfl] at ih
      simpa using ih
    · simp [firstE, misT, h]
theorem firstE_zero (l k : List Int) (h : firstE l = 0) : firstE (l ++ k) = firstE k := by
  induction l with
  | nil => rfl
  | cons e l ih =>
    by_cases he : e = 0
    · simp [firstE, he] at h ⊢
      exact ih h
    · simp [firstE, he] at h
theorem errJ_end (i k f t z r rides : Int) (p : TP) (L : List TP) (h1 : chk i k f t z r = 0) (h2 : chkT p = 0) (h3 : wi rides 0 60 = true) (h4 : firstE (L.map chkT) = 0) :
    errJ i k f t z r rides p L = if ((p.a != i) || L.any (fun p => p.a != i)) = true then 4 else 0 := by
  unfold errJ
  rw [List.append_assoc, List.append_assoc, firstE_zero _ _ (by simp [firstE, h1, h2, h3]), firstE_zero _ _ h4]
  by_cases h : p.a = i
  · have := firstE_mis i L
    simp only [List.cons_append, List.nil_append, firstE, misT, h, if_true, bne_self_eq_false, Bool.false_or] at this ⊢
    exact this
  · simp [firstE, misT, h]
theorem errJ_was (i k f t z r rides : Int) (p : TP) (L : List TP) (h1 : chk i k f t z r = 0) (h2 : chkT p = 0) (h3 : wi rides 0 60 = true) (q : Nat) (x : TP) (hx : L[q]? = some x) (h4 : firstE ((L.take q).map chkT) = 0) (h5 : chkT x ≠ 0) :
    errJ i k f t z r rides p L = chkT x := by
  unfold errJ
  rw [List.append_assoc, List.append_assoc, firstE_zero _ _ (by simp [firstE, h1, h2, h3])]
  have : L.map chkT = ((L.take q).map chkT ++ [chkT x]) ++ (L.drop (q + 1)).map chkT := by
    have hq : q < L.length := (List.getElem?_eq_some_iff.mp hx).1
    rw [← List.map_singleton, ← List.map_append, ← List.map_append]
    congr 1
    rw [show [x] = [L[q]] by rw [(List.getElem?_eq_some_iff.mp hx).2], List.take_append_getElem, List.take_append_drop]
  rw [this, List.append_assoc, List.append_assoc, firstE_zero _ _ h4]
  simp [firstE, h5]
set_option maxHeartbeats 3200000 in
theorem wrong_any (i k f t z r rides a g s m zone : Int) (o : Option Addr) (cap : Nat) (L : List TP) (w : World) (hL : TapsAt w o L) (hlen : L.length ≤ 9223372036854775807) :
    Calls Tryz.prog 197 #[tk i k f t z r, .slice o L.length cap, .int .i64 rides, tp a g s m zone] w fun e w' =>
      e = .returned (.int .i64 (errJ i k f t z r rides ⟨a, g, s, m, zone⟩ L)) ∧ Below w.heap.size w w' := by
  have HL := hide hL
  clear hL
  have HW := hide (fun (h1 : chk i k f t z r = 0) (h2 : chkP a g s m zone = 0) (h3 : wi rides 0 60 = true) => errJ_was i k f t z r rides ⟨a, g, s, m, zone⟩ L h1 h2 h3)
  have HE := hide (fun (h1 : chk i k f t z r = 0) (h2 : chkP a g s m zone = 0) (h3 : wi rides 0 60 = true) => errJ_end i k f t z r rides ⟨a, g, s, m, zone⟩ L h1 h2 h3)
  have hways : ((chk i k f t z r != 0) = true ∧ errJ i k f t z r rides ⟨a, g, s, m, zone⟩ L = chk i k f t z r) ∨ (chk i k f t z r = 0 ∧ (chkP a g s m zone != 0) = true ∧ errJ i k f t z r rides ⟨a, g, s, m, zone⟩ L = chkP a g s m zone) ∨
      (chk i k f t z r = 0 ∧ chkP a g s m zone = 0 ∧ wi rides 0 60 = false ∧ errJ i k f t z r rides ⟨a, g, s, m, zone⟩ L = 3) ∨ (chk i k f t z r = 0 ∧ chkP a g s m zone = 0 ∧ wi rides 0 60 = true) := by
    unfold errJ
    by_cases h1 : chk i k f t z r = 0
    · by_cases h2 : chkP a g s m zone = 0
      · cases h3 : wi rides 0 60
        · simp [firstE, chkT, h1, h2]
        · simp [h1, h2]
      · simp [firstE, chkT, h1, h2]
    · simp [firstE, h1]
  generalize errJ i k f t z r rides ⟨a, g, s, m, zone⟩ L = R at *
  have HT := hide (fun W => check_any i k f t z r W)
  have HP := hide (fun W => checkP_any a g s m zone W)
  generalize chk i k f t z r = X at HT hways HW HE
  generalize chkP a g s m zone = Y at HP hways HW HE
  rcases hways with ⟨h1, rfl⟩ | ⟨h1, h2, rfl⟩ | ⟨h1, h2, h3, rfl⟩ | ⟨h1, h2, h3⟩
  · go_enter Tryz.func197, Tryz.ntmps197
    go_wp2_with fail
    refine (HT.out _).mono ?_
    rintro e wB ⟨rfl, hb1⟩
    obtain ⟨hc, hf⟩ := bcell hb1
    go_wp2_with fail
    go_ret
    exact ⟨rfl, ((((Below.refl w.heap.size w).alloc (Nat.le_refl _) _).alloc (by simp) _).trans (hb1.mono (by simp; omega)))⟩
  · subst h1
    go_enter Tryz.func197, Tryz.ntmps197
    go_wp2_with fail
    refine (HT.out _).mono ?_
    rintro e wB ⟨rfl, hb1⟩
    obtain ⟨hc, hf⟩ := bcell hb1
    go_wp2_with fail
    refine (HP.out _).mono ?_
    rintro e wC ⟨rfl, hb2⟩
    have HB := hide (((((Below.refl w.heap.size w).alloc (Nat.le_refl _) _).alloc (by simp) _).trans (hb1.mono (by simp; omega))).trans (hb2.mono (by have := hb1.size; simp at this; omega)))
    clear hb1 hb2
    go_wp2_with fail
    go_ret
    exact ⟨rfl, HB.out⟩
  all_goals
    subst h1
    subst h2
    go_enter Tryz.func197, Tryz.ntmps197
    go_wp2_with fail
    refine (HT.out _).mono ?_
    rintro e w1 ⟨rfl, hb1⟩
    obtain ⟨hc, hf⟩ := bcell hb1
    go_wp2_with fail
    refine (HP.out _).mono ?_
    rintro e wC ⟨rfl, hb2⟩
    have HB := hide (((((Below.refl w.heap.size w).alloc (Nat.le_refl _) _).alloc (by simp) _).trans (hb1.mono (by simp; omega))).trans (hb2.mono (by have := hb1.size; simp at this; omega)))
    have HC := hide (show wC.cell? ⟨w.heap.size, 0, none⟩ = some (.int .i64 i) ∧ Tap5 wC ⟨w.heap.size + 1, 0, none⟩ ⟨a, g, s, m, zone⟩ ∧ w.heap.size + 1 < wC.heap.size by
      have s1 := hb1.size
      have s2 := hb2.size
      simp at s1
      refine ⟨?_, ⟨?_, ?_, ?_, ?_, ?_⟩, by omega⟩
      · rw [hb2.cell (p := ⟨w.heap.size, 0, none⟩) (show w.heap.size < w1.heap.size by omega), hc _ _ (by simp; omega)]
        simp [go_sem]
      all_goals
        rw [hb2.cell (show w.heap.size + 1 < w1.heap.size by omega), hc _ _ (by simp)]
        simp [go_sem])
    clear hb1 hb2 hc hf
    go_wp2_with (go_at_call 137; refine (within_any _ _ _ _).mono ?_; rintro e wD ⟨rfl, hwD⟩; obtain rfl := hwD.symm)
  · go_ret
    exact ⟨rfl, HB.out⟩
  · have HW' := hide (HW.out trivial trivial h3)
    have HE' := hide (HE.out trivial trivial h3)
    clear HW HE
    go_loopw [31] (fun j wr => ∃ (q : Nat), q ≤ L.length ∧ j = .int .i64 q ∧ Hid (firstE ((L.take q).map chkT) = 0) ∧ Below wC.heap.size wC wr) (fun j _ => L.length - (intOf j).toNat)
    case atStart => exact ⟨0, Nat.zero_le _, rfl, by show _ = _; simp [firstE], Below.refl _ _⟩
    case round =>
      obtain ⟨q, hq, rfl, hF, hbr⟩ := hrel
      have HBB := hide (HB.out.trans (hbr.mono HB.out.size))
      by_cases hgo : q < L.length
      · obtain ⟨p, hp⟩ : ∃ p, L[q]? = some p := ⟨L[q], by simp [hgo]⟩
        have HS : Hid (chkP p.a p.g p.s p.m p.z = 0 → firstE ((L.take (q + 1)).map chkT) = 0) := by
          show _ → _
          intro h0
          rw [List.take_add_one, hp, Option.toList_some, List.map_append, List.map_singleton, firstE_snoc, if_pos hF.out]
          exact h0
        have HS2 := hide (HW'.out q p hp hF.out)
        obtain ⟨A, rfl, c0, c1, c2, c3, c4⟩ := (HL.out.below HBB.out) q p hp
        clear hp
        go_wp2_with fail
        refine (checkP_any _ _ _ _ _ _).mono ?_
        rintro e w3 ⟨rfl, hb3⟩
        have HB3 : Hid (Below wr.heap.size wr w3) := by
          refine hide (Below.trans ?_ (hb3.mono ?_))
          · repeat (first | with_reducible exact Below.refl _ _ | with_reducible refine Below.alloc ?_ (by simp) _ | with_reducible refine Below.setCell ?_ (by simp) _)
          · simp
        have HB4 := hide (hbr.trans (HB3.out.mono hbr.size))
        clear hb3 hbr
        cases hx : (chkP p.a p.g p.s p.m p.z != 0)
        · go_wp2_with fail
          exact ⟨⟨q + 1, by omega, by simp, HS.out (by simpa using hx), HB4.out⟩, by simp [intOf]; omega⟩
        · go_wp2_with fail
          go_ret
          exact ⟨by rw [HS2.out (by simpa [chkT] using hx)]; rfl, HBB.out.trans (HB3.out.mono HBB.out.size)⟩
      · have HF : Hid (R = if (a != i || L.any fun p => p.a != i) = true then 4 else 0) := by
          have h1 := hF.out
          rw [List.take_of_length_le (by omega)] at h1
          exact HE'.out h1
        obtain ⟨b0, b1, b2⟩ := HC.out
        have d0 : wr.cell? ⟨w.heap.size, 0, none⟩ = some (.int .i64 i) := by rw [hbr.cell (p := ⟨w.heap.size, 0, none⟩) (show w.heap.size < wC.heap.size by omega)]; exact b0
        obtain ⟨c0, c1, c2, c3, c4⟩ := b1.below hbr b2
        clear b0 b1 b2
        have hl0 : w.heap.size < wr.heap.size := World.block_lt_of_cell? wr ⟨w.heap.size, 0, none⟩ d0
        simp at c0 c1 c2 c3 c4
        cases hx : (a != i)
        · rw [hx] at HF
          cases hy : L.any (fun p => p.a != i)
          all_goals
            rw [hy] at HF
            go_wp2_with fail
            refine (wrong1_any _ _ _ _ _ i _ _ d0).mono ?_
            rintro e w3 ⟨rfl, hb3⟩
            have d1 : w3.cell? ⟨w.heap.size, 0, none⟩ = some (.int .i64 i) := by rw [hb3.cell (p := ⟨w.heap.size, 0, none⟩) hl0]; exact d0
            go_wp2_with fail
            refine (containsW_any i _ o cap L w3 ((HL.out.below HBB.out).below hb3) hlen d1).mono ?_
            rintro e w4 ⟨rfl, hb4⟩
            go_wp2_with fail
            go_ret
            exact ⟨by rw [HF.out]; rfl, (HBB.out.trans (hb3.mono HBB.out.size)).trans (hb4.mono (Nat.le_trans HBB.out.size hb3.size))⟩
        · rw [hx] at HF
          go_wp2_with fail
          refine (wrong1_any _ _ _ _ _ i _ _ d0).mono ?_
          rintro e w3 ⟨rfl, hb3⟩
          go_wp2_with fail
          go_ret
          exact ⟨by rw [HF.out]; rfl, (HBB.out.trans (hb3.mono HBB.out.size))⟩
end Go.Proofs.YtcjfmbeemdcklaaGreat

/-
  The document's answers on ledgers: 'TicketAt', 'isTwice' (package leeboardref).
-/
namespace Go.Proofs.YtcjfmbeemdcklaaGreat
open Go.RowKit
structure TK where
  i : Int
  k : Int
  f : Int
  t : Int
  z : Int
  r : Int
structure Tik6 (w : World) (b : Addr) (p : TK) : Prop where
  c0 : w.cell? b = some (.int .i64 p.i)
  c1 : w.cell? ⟨b.block, b.off + 1, none⟩ = some (.int .i64 p.k)
  c2 : w.cell? ⟨b.block, b.off + 2, none⟩ = some (.int .i64 p.f)
  c3 : w.cell? ⟨b.block, b.off + 3, none⟩ = some (.int .i64 p.t)
  c4 : w.cell? ⟨b.block, b.off + 4, none⟩ = some (.int .i64 p.z)
  c5 : w.cell? ⟨b.block, b.off + 5, none⟩ = some (.int .i64 p.r)
theorem Tik6.lt {w : World} {b : Addr} {p : TK} (h : Tik6 w b p) : b.block < w.heap.size := World.block_lt_of_cell? w b h.c0
theorem Tik6.below {B : Nat} {w w' : World} {b : Addr} {p : TK} (h : Tik6 w b p) (hb : Below B w w') (hlt : b.block < B) : Tik6 w' b p :=
  ⟨by rw [hb.cell hlt]; exact h.c0, by rw [hb.cell (p := ⟨b.block, b.off + 1, none⟩) hlt]; exact h.c1, by rw [hb.cell (p := ⟨b.block, b.off + 2, none⟩) hlt]; exact h.c2,
    by rw [hb.cell (p := ⟨b.block, b.off + 3, none⟩) hlt]; exact h.c3, by rw [hb.cell (p := ⟨b.block, b.off + 4, none⟩) hlt]; exact h.c4,
    by rw [hb.cell (p := ⟨b.block, b.off + 5, none⟩) hlt]; exact h.c5⟩
def TiksAt (w : World) (o : Option Addr) (L : List TK) : Prop := ∀ i p, L[i]? = some p → ∃ b, o = some b ∧ Tik6 w (b.add (i * 6)) p
theorem TiksAt.below {w w' : World} {o : Option Addr} {L : List TK} (h : TiksAt w o L) (hb : Below w.heap.size w w') : TiksAt w' o L :=
  fun i p hi => have ⟨b, e, h5⟩ := h i p hi; ⟨b, e, h5.below hb h5.lt⟩
def idxT (L : List TK) (id : Int) : Int := match L.findIdx? (fun p => p.i == id) with
  | some n => n
  | none => -1
theorem idxT_some {L : List TK} {id : Int} {q : Nat} {p : TK} (h : L[q]? = some p) (hp : p.i = id) (hno : ∀ j, j < q → ∀ p, L[j]? = some p → p.i ≠ id) : idxT L id = q := by
  obtain ⟨hq, he⟩ := List.getElem?_eq_some_iff.1 h
  have : L.findIdx? (fun p => p.i == id) = some q := by
    rw [List.findIdx?_eq_some_iff_getElem]
    refine ⟨hq, by rw [he]; simpa using hp, fun j hj => ?_⟩
    have := hno j hj L[j] (by simp)
    simpa using this
  rw [idxT, this]
theorem idxT_none {L : List TK} {id : Int} (hno : ∀ (j : Nat) (p : TK), L[j]? = some p → p.i ≠ id) : idxT L id = -1 := by
  have : L.findIdx? (fun p => p.i == id) = none := by
    rw [List.findIdx?_eq_none_iff]
    intro p hp
    obtain ⟨j, hj⟩ := List.mem_iff_getElem?.1 hp
    simpa using hno j p hj
  rw [idxT, this]
set_option maxHeartbeats 1600000 in
theorem ticketAt_any (o : Option Addr) (cap : Nat) (L : List TK) (id : Int) (w : World) (hL : TiksAt w o L) (hlen : L.length ≤ 9223372036854775807) :
    Calls Tryz.prog 31 #[.slice o L.length cap, .int .i64 id] w fun e w' => e = .returned (.int .i64 (idxT L id)) ∧ w' = w := by
  have HL := hide hL
  clear hL
  go_enter Tryz.func31, Tryz.ntmps31
  go_wp2
  go_loop [5] (fun i => ∃ q : Nat, q ≤ L.length ∧ i = .int .i64 q ∧ Hid (∀ j, j < q → ∀ p, L[j]? = some p → p.i ≠ id)) (fun i => L.length - (intOf i).toNat)
  case atStart => exact ⟨0, Nat.zero_le _, rfl, by intro j hj; omega⟩
  case round =>
    obtain ⟨q, hq, rfl, hno⟩ := hrel
    by_cases hlt : q < L.length
    · obtain ⟨p, hp⟩ : ∃ p, L[q]? = some p := ⟨L[q], by simp [hlt]⟩
      obtain ⟨A, rfl, c0, _, _, _, _, _⟩ := HL.out q p hp
      have HPq := hide hp
      clear hp
      by_cases he : p.i = id
      · have he' : (p.i == id) = true := by simpa using he
        have HR := hide (idxT_some HPq.out he hno.out)
        clear he
        go_wp2_with fail
        go_ret
        exact ⟨by rw [HR.out]; rfl, rfl⟩
      · have he' : (p.i == id) = false := by simpa using he
        have HN : Hid (∀ j, j < q + 1 → ∀ p, L[j]? = some p → p.i ≠ id) := by
          intro j hj p' hp'
          by_cases h : j < q
          · exact hno.out j h p' hp'
          · obtain rfl : j = q := by omega
            rw [HPq.out] at hp'
            cases hp'
            exact he
        clear he
        go_wp2_with fail
        exact ⟨⟨q + 1, by omega, by simp, HN⟩, by simp [intOf]; omega⟩
    · have HR := hide (idxT_none (L := L) (id := id) (fun j p hp => hno.out j (by have := (List.getElem?_eq_some_iff.1 hp).1; omega) p hp))
      go_wp2_with fail
      go_ret
      exact ⟨by rw [HR.out]; rfl, rfl⟩
def twiceT (L : List TP) (p : TP) : Bool := L.any fun x => x.g == p.g && x.s == p.s
end Go.Proofs.YtcjfmbeemdcklaaGreat

/-
  'goesOn', 'Judge' (package rule).
-/
namespace Go.Proofs.YtcjfmbeemdcklaaGreat
open Go.RowKit
def lastT (L : List TP) : Int := match L.getLast? with
  | none => -1
  | some p => p.m
def goes (last m : Int) : Bool := decide (0 ≤ last ∧ last ≤ m ∧ m < last + 60)
theorem lastT_at (L : List TP) (p : TP) (n : Nat) (hn : L.length = n + 1) (hp : L[n]? = some p) : lastT L = p.m := by
  rw [lastT, List.getLast?_eq_getElem?, hn, Nat.add_sub_cancel, hp]
set_option maxHeartbeats 1600000 in
theorem goesOn_any (a g s m zone : Int) (o : Option Addr) (cap : Nat) (L : List TP) (w : World) (hL : TapsAt w o L) (hlen : L.length ≤ 9223372036854775807) (hm : 0 ≤ m) (hm2 : m ≤ 9999) (hl : ∀ p ∈ L, 0 ≤ p.m ∧ p.m ≤ 9999) :
    Calls Tryz.prog 199 #[.slice o L.length cap, tp a g s m zone] w fun e w' => e = .returned (.bool (goes (lastT L) m)) ∧ Below w.heap.size w w' := by
  rcases hn : L.length with _ | n
  · have hL0 : L = [] := List.eq_nil_of_length_eq_zero hn
    subst hL0
    clear hL hl
    go_enter Tryz.func199, Tryz.ntmps199
    go_wp2_with fail
    go_ret
    exact ⟨by simp [goes, lastT], (Below.refl _ _).alloc (Nat.le_refl _) _⟩
  · obtain ⟨p, hp⟩ : ∃ p, L[n]? = some p := ⟨L[n]'(by omega), by simp [hn]⟩
    have h1 := hl p (List.mem_of_getElem? hp)
    have HR := hide (lastT_at L p n hn hp)
    obtain ⟨A, rfl, h5⟩ := hL n p hp
    obtain ⟨c0, c1, c2, c3, c4⟩ := h5.below ((Below.refl w.heap.size w).alloc (Nat.le_refl _) (.cells #[.int .i64 a, .int .i64 g, .int .i64 s, .int .i64 m, .int .i64 zone] 58)) h5.lt
    have HH := hide (show Tap5 w (A.add (n * 5)) p from h5)
    have hnb : n < 9223372036854775807 := by omega
    clear h5 hL hp hn hl
    obtain ⟨e1, e2⟩ := h1
    go_enter Tryz.func199, Tryz.ntmps199
    go_wp2_with fail
    go_region
    go_wp2_with (go_at_call 137; refine (within_any _ _ _ _).mono ?_; rintro e w' ⟨rfl, rfl⟩)
    go_ret
    refine ⟨?_, ((Below.refl w.heap.size w).alloc (Nat.le_refl _) _).drew⟩
    have e : wi (m - p.m) 0 59 = goes (lastT L) m := by
      rw [HR.out]
      simp only [wi, goes, ← Bool.decide_and]
      exact decide_eq_decide.mpr ⟨fun h => by omega, fun h => by omega⟩
    rw [← e]
    rfl
theorem firstE_mem (l : List Int) (h : firstE l = 0) : ∀ x ∈ l, x = 0 := by
  induction l with
  | nil => intro x hx; cases hx
  | cons e l ih =>
    by_cases he : e = 0
    · simp [firstE, he] at h
      intro x hx
      rcases List.mem_cons.mp hx with rfl | hx
      · exact he
      · exact ih h x hx
    · simp [firstE, he] at h
theorem chkP_right {a g s m z : Int} (h : chkP a g s m z = 0) : (1 ≤ a ∧ a ≤ 9999) ∧ (0 ≤ g ∧ g ≤ 2) ∧ (1 ≤ s ∧ s ≤ 99) ∧ (0 ≤ m ∧ m ≤ 9999) ∧ isZ z = true := by
  unfold chkP at h
  split at h
  · simp at h
  · split at h
    · simp at h
    · simp_all [wi]
theorem chk_right {i k f t z r : Int} (h : chk i k f t z r = 0) : (1 ≤ i ∧ i ≤ 9999) ∧ (0 ≤ f ∧ f ≤ 9999) ∧ (0 ≤ t ∧ t ≤ 9999) ∧ (1 ≤ z ∧ z ≤ 15) ∧ (1 ≤ k ∧ k ≤ 3) ∧ f ≤ t ∧ ridesF k r = true := by
  unfold chk at h
  split at h
  · simp at h
  · split at h
    · simp at h
    · split at h
      · simp at h
      · split at h
        · simp at h
        · simp_all [wi, inR]
theorem errJ_right {i k f t z r rides : Int} {p : TP} {L : List TP} (h : errJ i k f t z r rides p L = 0) :
    chk i k f t z r = 0 ∧ chkT p = 0 ∧ wi rides 0 60 = true ∧ (∀ x ∈ L, chkT x = 0) ∧ p.a = i ∧ (∀ x ∈ L, x.a = i) := by
  have h0 := firstE_mem _ h
  simp only [List.mem_append, List.mem_cons, List.not_mem_nil, or_false, List.mem_map] at h0
  refine ⟨h0 _ (by simp), h0 _ (by simp), ?_, fun x hx => h0 _ (Or.inl (Or.inl (Or.inr ⟨x, hx, rfl⟩))), ?_, fun x hx => ?_⟩
  · have := h0 (if wi rides 0 60 = true then 0 else 3) (by simp)
    cases hw : wi rides 0 60
    · simp [hw] at this
    · rfl
  · have := h0 (misT i p) (by simp)
    by_cases e : p.a = i
    · exact e
    · simp [misT, e] at this
  · have := h0 (misT i x) (Or.inr ⟨x, hx, rfl⟩)
    by_cases e : x.a = i
    · exact e
    · simp [misT, e] at this
def judgeV (i k f t z r rides : Int) (p : TP) (L : List TP) : Int × Int :=
  if errJ i k f t z r rides p L ≠ 0 then (0, errJ i k f t z r rides p L) else judge k f t z r (lastT L) rides p.m p.z
abbrev cK (i k f t z r : Int) (T : TypeId) : Obj := .cells #[.int .i64 i, .int .i64 k, .int .i64 f, .int .i64 t, .int .i64 z, .int .i64 r] T
abbrev cP (a g s m z : Int) (T : TypeId) : Obj := .cells #[.int .i64 a, .int .i64 g, .int .i64 s, .int .i64 m, .int .i64 z] T
def Boxes (w w1 : World) (x : TK) (p : TP) : Prop := Tik6 w1 ⟨w.heap.size + 1 + 1, 0, none⟩ x ∧ Tap5 w1 ⟨w.heap.size + 1, 0, none⟩ p ∧ w.heap.size + 1 + 1 < w1.heap.size ∧ Below w.heap.size w w1
theorem boxes_of (i k f t z r a g s m zone : Int) (T1 T2 T3 : TypeId) (w w1 : World) (h : Below (((w.alloc (cK i k f t z r T1)).alloc (cP a g s m zone T2)).alloc (cK i k f t z r T3)).heap.size (((w.alloc (cK i k f t z r T1)).alloc (cP a g s m zone T2)).alloc (cK i k f t z r T3)) w1) :
    Boxes w w1 ⟨i, k, f, t, z, r⟩ ⟨a, g, s, m, zone⟩ := by
  have s1 := h.size
  simp at s1
  refine ⟨Tik6.below (w := ((w.alloc (cK i k f t z r T1)).alloc (cP a g s m zone T2)).alloc (cK i k f t z r T3)) ⟨?_, ?_, ?_, ?_, ?_, ?_⟩ h (by simp), Tap5.below (w := ((w.alloc (cK i k f t z r T1)).alloc (cP a g s m zone T2)).alloc (cK i k f t z r T3)) ⟨?_, ?_, ?_, ?_, ?_⟩ h (by simp), by omega,
    Below.trans ((((Below.refl _ _).alloc (Nat.le_refl _) _).alloc (by simp) _).alloc (by simp; omega) _) (h.mono (by simp; omega))⟩
  all_goals simp [go_sem]
theorem Boxes.on {w w1 w2 : World} {x : TK} {p : TP} (h : Boxes w w1 x p) (hb : Below w1.heap.size w1 w2) : Boxes w w2 x p :=
  ⟨h.1.below hb h.1.lt, h.2.1.below hb h.2.1.lt, Nat.lt_of_lt_of_le h.2.2.1 hb.size, h.2.2.2.trans (hb.mono h.2.2.2.size)⟩
set_option maxHeartbeats 3200000 in
theorem judge_any (i k f t z r rides a g s m zone : Int) (o : Option Addr) (cap : Nat) (L : List TP) (w : World) (hL : TapsAt w o L) (hlen : L.length ≤ 9223372036854775807) :
    Calls Tryz.prog 191 #[tk i k f t z r, .slice o L.length cap, .int .i64 rides, tp a g s m zone] w fun e w' =>
      e = .returned (.tuple #[.int .i64 (judgeV i k f t z r rides ⟨a, g, s, m, zone⟩ L).1, .int .i64 (judgeV i k f t z r rides ⟨a, g, s, m, zone⟩ L).2]) ∧ Below w.heap.size w w' := by
  have HL := hide hL
  clear hL
  have HG := hide (fun (h : errJ i k f t z r rides ⟨a, g, s, m, zone⟩ L = 0) => errJ_right h)
  have HX := hide (fun W (h : TapsAt W o L) => wrong_any i k f t z r rides a g s m zone o cap L W h hlen)
  generalize hJ : judgeV i k f t z r rides ⟨a, g, s, m, zone⟩ L = J
  unfold judgeV judge at hJ
  simp only [] at hJ
  generalize errJ i k f t z r rides ⟨a, g, s, m, zone⟩ L = E at *
  by_cases hE : E = 0
  · subst hE
    obtain ⟨h1, h2, -, h4, -⟩ := HG.out rfl
    obtain ⟨-, -, -, ⟨z1, z2⟩, -⟩ := chk_right h1
    obtain ⟨-, -, -, ⟨m1, m2⟩, hzone⟩ := chkP_right h2
    have HS := hide (fun W => shut_any i k f t z r a g s m zone W (by omega) z2 hzone)
    have HGo := hide (fun W (h : TapsAt W o L) => goesOn_any a g s m zone o cap L W h hlen m1 m2 (fun p hp => (chkP_right (h4 p hp)).2.2.2.1))
    clear h1 h2 h4 z1 z2 m1 m2 hzone HG
    generalize place f t z m zone = P at *
    have hgo : goes (lastT L) m = decide (0 ≤ lastT L ∧ lastT L ≤ m ∧ m < lastT L + 60) := rfl
    have hsp : spent k r rides = decide ((k = 1 ∧ 0 < rides) ∨ (k = 3 ∧ r ≤ rides)) := rfl
    have hc : ((P != 0) = true ∧ J = (3, P)) ∨ (P = 0 ∧ goes (lastT L) m = true ∧ J = (2, 0)) ∨ (P = 0 ∧ goes (lastT L) m = false ∧ spent k r rides = true ∧ J = (3, 10)) ∨ (P = 0 ∧ goes (lastT L) m = false ∧ spent k r rides = false ∧ J = (1, 0)) := by
      rw [hgo, hsp, ← hJ]
      by_cases hP : P = 0
      · by_cases c1 : 0 ≤ lastT L ∧ lastT L ≤ m ∧ m < lastT L + 60
        · simp [hP, c1]
        · by_cases c2 : (k = 1 ∧ 0 < rides) ∨ (k = 3 ∧ r ≤ rides)
          · simp only [hP, c1, c2]; simp
          · simp only [hP, c1, c2]; simp
      · simp [hP]
    clear hgo hsp hJ
    generalize goes (lastT L) m = G at *
    have HSp := hide (fun W => spent_any i k f t z r rides W)
    generalize spent k r rides = Sp at *
    rcases hc with ⟨h1, rfl⟩ | ⟨rfl, rfl, rfl⟩ | ⟨rfl, rfl, rfl, rfl⟩ | ⟨rfl, rfl, rfl, rfl⟩
    all_goals
      go_enter Tryz.func191, Tryz.ntmps191
      go_wp2_with fail
      refine (HX.out _ (HL.out.below ?_)).mono ?_
      · repeat (first | with_reducible exact Below.refl _ _ | with_reducible refine Below.alloc ?_ (by simp; try omega) _ | with_reducible refine Below.setCell ?_ (by simp; try omega) _)
      rintro e w1 ⟨rfl, hb1⟩
      have HB1 := hide (boxes_of _ _ _ _ _ _ _ _ _ _ _ _ _ _ _ _ hb1)
      clear hb1
      obtain ⟨⟨x0, x1, x2, x3, x4, x5⟩, ⟨y0, y1, y2, y3, y4⟩, -, -⟩ := HB1.out
      simp only [Nat.zero_add] at x0 x1 x2 x3 x4 x5 y0 y1 y2 y3 y4
      go_wp2_with fail
      refine (HS.out _).mono ?_
      rintro e w2 ⟨rfl, hb2⟩
      have HB2 := hide (HB1.out.on hb2)
      clear hb2 HB1 x0 x1 x2 x3 x4 x5 y0 y1 y2 y3 y4
      obtain ⟨⟨x0, x1, x2, x3, x4, x5⟩, ⟨y0, y1, y2, y3, y4⟩, -, -⟩ := HB2.out
      simp only [Nat.zero_add] at x0 x1 x2 x3 x4 x5 y0 y1 y2 y3 y4
      go_wp2_with fail
    · go_ret2
      exact ⟨rfl, HB2.out.2.2.2⟩
    all_goals
      refine (HGo.out _ (HL.out.below HB2.out.2.2.2)).mono ?_
      rintro e w3 ⟨rfl, hb3⟩
      have HB3 := hide (HB2.out.on hb3)
      clear hb3 HB2 x0 x1 x2 x3 x4 x5 y0 y1 y2 y3 y4
      obtain ⟨⟨x0, x1, x2, x3, x4, x5⟩, ⟨y0, y1, y2, y3, y4⟩, -, -⟩ := HB3.out
      simp only [Nat.zero_add] at x0 x1 x2 x3 x4 x5 y0 y1 y2 y3 y4
      go_wp2_with fail
    · go_ret2
      exact ⟨rfl, HB3.out.2.2.2⟩
    all_goals
      refine (HSp.out _).mono ?_
      rintro e w4 ⟨rfl, hb4⟩
      have HB4 := hide (HB3.out.on hb4)
      clear hb4 HB3 x0 x1 x2 x3 x4 x5 y0 y1 y2 y3 y4
      go_wp2_with fail
      go_ret2
      exact ⟨rfl, HB4.out.2.2.2⟩
  · have hE' : (E != 0) = true := by simpa using hE
    rw [if_pos hE] at hJ
    subst hJ
    clear hE HG
    go_enter Tryz.func191, Tryz.ntmps191
    go_wp2_with fail
    refine (HX.out _ (HL.out.below ?_)).mono ?_
    · repeat (first | with_reducible exact Below.refl _ _ | with_reducible refine Below.alloc ?_ (by simp; try omega) _ | with_reducible refine Below.setCell ?_ (by simp; try omega) _)
    rintro e w1 ⟨rfl, hb1⟩
    have HB1 := hide (boxes_of _ _ _ _ _ _ _ _ _ _ _ _ _ _ _ _ hb1)
    clear hb1
    go_wp2_with fail
    go_ret2
    exact ⟨rfl, HB1.out.2.2.2⟩
end Go.Proofs.YtcjfmbeemdcklaaGreat

/-
  The document's answers on ledgers: 'ManyOf' (package leeboardref).
-/
namespace Go.Proofs.YtcjfmbeemdcklaaGreat
open Go.RowKit
def IntsAt (w : World) (o : Option Addr) (L : List Int) : Prop := ∀ (i : Nat) (v : Int), L[i]? = some v → ∃ b, o = some b ∧ w.cell? (b.add i) = some (.int .i64 v)
theorem IntsAt.below {w w' : World} {o : Option Addr} {L : List Int} (h : IntsAt w o L) (hb : Below w.heap.size w w') : IntsAt w' o L :=
  fun i v hi => have ⟨b, e, h1⟩ := h i v hi; ⟨b, e, by rw [hb.cell (World.block_lt_of_cell? w _ h1)]; exact h1⟩
abbrev lg (o1 o2 o3 : Option Addr) (n1 c1 n2 c2 n3 c3 : Nat) : Value := .agg #[.slice o1 n1 c1, .slice o2 n2 c2, .slice o3 n3 c3]
def many (L : List (TP × Int)) (id : Int) : Int × Int := L.foldl (fun s x => if x.1.a = id ∧ x.2 = 1 then (s.1 + 1, x.1.m) else s) (0, -1)
theorem many_snoc (L : List (TP × Int)) (x : TP × Int) (id : Int) : many (L ++ [x]) id = if x.1.a = id ∧ x.2 = 1 then ((many L id).1 + 1, x.1.m) else many L id := by
  simp [many, List.foldl_append]
end Go.Proofs.YtcjfmbeemdcklaaGreat

/-
  From the row to the walk and back: a ticket, a tap, taps, tickets, integers, a ledger opened; the arguments carried behind the call.
-/
namespace Go.Proofs.YtcjfmbeemdcklaaGreat
open Go.ChangeShapes Go.WideShapes Go.ChangeAt Go.RowKit Go.Deep
theorem own : ownKnob Tryz.prog.godebug = none := by kernel_rfl
theorem laid : laidOutB Tryz.prog = true := by kernel_rfl
theorem cells3' : Tryz.prog.cellsOf 3 = 1 := by kernel_rfl
theorem cells23 : Tryz.prog.cellsOf 34 = 6 := by kernel_rfl
theorem cells32 : Tryz.prog.cellsOf 58 = 5 := by kernel_rfl
theorem cells30 : Tryz.prog.cellsOf 23 = 1 := by kernel_rfl
theorem cells40 : Tryz.prog.cellsOf 22 = 1 := by kernel_rfl
theorem cells41 : Tryz.prog.cellsOf 24 = 1 := by kernel_rfl
theorem cells43 : Tryz.prog.cellsOf 26 = 3 := by kernel_rfl
section
variable {H : Type} {enc : TypeId × Value → H}
theorem six_of {W : World} {base fuel : Nat} {sp : Nat → Bool} {hd : Bool} {cs : List Value} {x : DataW H × List MemPlace} (hsz : cs.length = 6) (h : DataW.trod enc Tryz.prog W base sp hd fuel 34 cs = some x) :
    ∃ i k f t z r : Int, cs = [.int .i64 i, .int .i64 k, .int .i64 f, .int .i64 t, .int .i64 z, .int .i64 r] := by
  match cs, hsz with
  | [c0, c1, c2, c3, c4, c5], _ =>
  obtain ⟨xs, n, _, hx, hl, hlen, hfs⟩ := DataW.trod_struct Tryz.underlying34 h
  match xs, hlen with
  | [y0, y1, y2, y3, y4, y5], _ =>
  have g0 := hfs 0 _ rfl
  have g1 := hfs 1 _ rfl
  have g2 := hfs 2 _ rfl
  have g3 := hfs 3 _ rfl
  have g4 := hfs 4 _ rfl
  have g5 := hfs 5 _ rfl
  simp [cells3'] at g0 g1 g2 g3 g4 g5
  obtain ⟨i, e0, -⟩ := DataW.trod_int Tryz.underlying3 g0
  obtain ⟨k, e1, -⟩ := DataW.trod_int Tryz.underlying3 g1
  obtain ⟨f, e2, -⟩ := DataW.trod_int Tryz.underlying3 g2
  obtain ⟨t, e3, -⟩ := DataW.trod_int Tryz.underlying3 g3
  obtain ⟨z, e4, -⟩ := DataW.trod_int Tryz.underlying3 g4
  obtain ⟨r, e5, -⟩ := DataW.trod_int Tryz.underlying3 g5
  simp only [List.cons.injEq, and_true] at e0 e1 e2 e3 e4 e5
  subst e0 e1 e2 e3 e4 e5
  exact ⟨i, k, f, t, z, r, rfl⟩
theorem five_of {W : World} {base fuel : Nat} {sp : Nat → Bool} {hd : Bool} {cs : List Value} {x : DataW H × List MemPlace} (hsz : cs.length = 5) (h : DataW.trod enc Tryz.prog W base sp hd fuel 58 cs = some x) :
    ∃ a g s m z : Int, cs = [.int .i64 a, .int .i64 g, .int .i64 s, .int .i64 m, .int .i64 z] := by
  match cs, hsz with
  | [c0, c1, c2, c3, c4], _ =>
  obtain ⟨xs, n, _, hx, hl, hlen, hfs⟩ := DataW.trod_struct Tryz.underlying58 h
  match xs, hlen with
  | [y0, y1, y2, y3, y4], _ =>
  have g0 := hfs 0 _ rfl
  have g1 := hfs 1 _ rfl
  have g2 := hfs 2 _ rfl
  have g3 := hfs 3 _ rfl
  have g4 := hfs 4 _ rfl
  simp [cells3'] at g0 g1 g2 g3 g4
  obtain ⟨i, e0, -⟩ := DataW.trod_int Tryz.underlying3 g0
  obtain ⟨k, e1, -⟩ := DataW.trod_int Tryz.underlying3 g1
  obtain ⟨f, e2, -⟩ := DataW.trod_int Tryz.underlying3 g2
  obtain ⟨t, e3, -⟩ := DataW.trod_int Tryz.underlying3 g3
  obtain ⟨z, e4, -⟩ := DataW.trod_int Tryz.underlying3 g4
  simp only [List.cons.injEq, and_true] at e0 e1 e2 e3 e4
  subst e0 e1 e2 e3 e4
  exact ⟨i, k, f, t, z, rfl⟩
theorem args_kept {P : Program} (hl : laidOutB P = true) {W W' : World} (hb : Below W.heap.size W W') : ∀ {ts : List TypeId} {vs : List Value} {ds : List (DataW H)} {ps : List MemPlace},
    (ts.all fun t => P.readableRec t && decide (t < P.types.size)) = true → DataW.TrodAll enc P W 0 (fun _ => true) true ts vs ds ps → (∀ x ∈ ps, x.block < W.heap.size) →
    DataW.TrodAll enc P W' 0 (fun b => decide (b < W.heap.size)) true ts vs ds ps
  | [], vs, ds, ps, _, h, _ => by
    obtain ⟨rfl, rfl, rfl⟩ := trodAll_nil h
    exact trodAll_mk0
  | t :: ts, vs, ds, ps, ht, h, hlt => by
    obtain ⟨v, vs', d, ds', p, q, rfl, rfl, rfl, h0, h1⟩ := trodAll_cons h
    simp only [List.all_cons, Bool.and_eq_true, decide_eq_true_eq] at ht
    exact trodAll_cons_mk (Below.trod hl ht.1.1 ht.1.2 h0 hb (fun x hx => hlt x (by simp [hx]))) (args_kept hl hb (by simpa using ht.2) h1 (fun x hx => hlt x (by simp [hx])))
end
end Go.Proofs.YtcjfmbeemdcklaaGreat

/-
  The document's answers on ledgers: 'CheckLedger' (package leeboardref): what it says, and its first loop.
-/
namespace Go.Proofs.YtcjfmbeemdcklaaGreat
open Go.RowKit
def tk0 : TK := ⟨0, 0, 0, 0, 0, 0⟩
def tp0 : TP := ⟨0, 0, 0, 0, 0⟩
def chkK (p : TK) : Int := chk p.i p.k p.f p.t p.z p.r
def errK (T : List TK) (i : Nat) : Int := firstE [chkK (T.getD i tk0), if 0 < i ∧ (T.getD i tk0).i ≤ (T.getD (i - 1) tk0).i then 4 else 0]
def verd (T : List TK) (P : List TP) (V : List Int) (i : Nat) (p : TP) : Int × Int :=
  judge (T.getD (idxT T p.a).toNat tk0).k (T.getD (idxT T p.a).toNat tk0).f (T.getD (idxT T p.a).toNat tk0).t (T.getD (idxT T p.a).toNat tk0).z (T.getD (idxT T p.a).toNat tk0).r
    (many ((P.zip V).take i) p.a).2 (many ((P.zip V).take i) p.a).1 p.m p.z
def errP (T : List TK) (P : List TP) (V : List Int) (i : Nat) : Int :=
  firstE [chkT (P.getD i tp0), if idxT T (P.getD i tp0).a < 0 then 5 else 0, if twiceT (P.take i) (P.getD i tp0) = true then 6 else 0, if wi (V.getD i 0) 1 2 = true then 0 else 7,
    if 0 < i ∧ (P.getD i tp0).m < (P.getD (i - 1) tp0).m then 4 else 0, if (verd T P V i (P.getD i tp0)).1 = V.getD i 0 then 0 else 4]
def chkL (T : List TK) (P : List TP) (V : List Int) : Int :=
  if 12 < T.length ∨ 60 < P.length ∨ P.length ≠ V.length then 2
  else firstE ((List.range T.length).map (errK T) ++ (List.range P.length).map (errP T P V))
theorem firstE_all (f : Nat → Int) (n : Nat) (k : List Int) (h : ∀ j, j < n → f j = 0) : firstE ((List.range n).map f ++ k) = firstE k := by
  rw [firstE_append]
  have : firstE ((List.range n).map f) = 0 := by
    induction n with
    | zero => rfl
    | succ n ih =>
      rw [List.range_succ, List.map_append, List.map_singleton, firstE_snoc, ih (fun j hj => h j (by omega)), if_pos rfl]
      exact h n (by omega)
  simp [this, firstE]
theorem firstE_at (f : Nat → Int) (n q : Nat) (k : List Int) (h : ∀ j, j < q → f j = 0) (hq : q < n) (hne : f q ≠ 0) : firstE ((List.range n).map f ++ k) = f q := by
  obtain ⟨m, rfl⟩ : ∃ m, n = q + 1 + m := ⟨n - (q + 1), by omega⟩
  rw [List.range_add, List.map_append, List.append_assoc, List.range_succ, List.map_append, List.append_assoc, firstE_all f q _ h]
  simp [firstE, hne]
theorem chkL_many {T : List TK} {P : List TP} {V : List Int} (h : 12 < T.length ∨ 60 < P.length ∨ P.length ≠ V.length) : chkL T P V = 2 := if_pos h
theorem chkL_ok {T : List TK} {P : List TP} {V : List Int} (h : ¬ (12 < T.length ∨ 60 < P.length ∨ P.length ≠ V.length)) (h1 : ∀ j, j < T.length → errK T j = 0) (h2 : ∀ j, j < P.length → errP T P V j = 0) : chkL T P V = 0 := by
  rw [chkL, if_neg h, firstE_all _ _ _ h1, ← List.append_nil ((List.range P.length).map _), firstE_all _ _ _ h2]; rfl
theorem errK_cases {T : List TK} {q : Nat} {p : TK} (hp : T[q]? = some p) : (chkK p ≠ 0 ∧ errK T q = chkK p) ∨ (chkK p = 0 ∧ 0 < q ∧ p.i ≤ (T.getD (q - 1) tk0).i ∧ errK T q = 4) ∨ (chkK p = 0 ∧ ¬ (0 < q ∧ p.i ≤ (T.getD (q - 1) tk0).i) ∧ errK T q = 0) := by
  have hg : T.getD q tk0 = p := by simp [List.getD, hp]
  unfold errK
  rw [hg]
  by_cases h : chkK p = 0
  · by_cases h2 : 0 < q ∧ p.i ≤ (T.getD (q - 1) tk0).i
    · exact Or.inr (Or.inl ⟨h, h2.1, h2.2, by simp only [firstE, h, if_true]; rw [if_pos h2]; rfl⟩)
    · exact Or.inr (Or.inr ⟨h, h2, by simp only [firstE, h, if_true]; rw [if_neg h2]; rfl⟩)
  · exact Or.inl ⟨h, by simp [firstE, h]⟩
end Go.Proofs.YtcjfmbeemdcklaaGreat

/-
  'cmp.Compare', 'place$1', 'slices.BinarySearchFunc', 'place' (package ledger): where a ticket of an id stands, or would.
-/
namespace Go.Proofs.YtcjfmbeemdcklaaGreat
open Go.RowKit
theorem isNaN_any (a : Int) (w : World) : Calls Tryz.prog 187 #[.int .i64 a] w fun e w' => e = .returned (.bool false) ∧ w' = w := by
  go_enter Tryz.func187, Tryz.ntmps187
  go_wp2
  go_ret
  exact ⟨by simp, rfl⟩
def cmpV (a b : Int) : Int := if a < b then -1 else if b < a then 1 else 0
theorem compare_any (a b : Int) (w : World) : Calls Tryz.prog 159 #[.int .i64 a, .int .i64 b] w fun e w' => e = .returned (.int .i64 (cmpV a b)) ∧ w' = w := by
  have hc : (a < b ∧ cmpV a b = -1) ∨ (¬ a < b ∧ b < a ∧ cmpV a b = 1) ∨ (¬ a < b ∧ ¬ b < a ∧ cmpV a b = 0) := by
    unfold cmpV
    by_cases h1 : a < b
    · simp [h1]
    · by_cases h2 : b < a
      · simp [h1, h2]
      · simp [h1, h2]
  rcases hc with ⟨h1, h2⟩ | ⟨h1, h3, h2⟩ | ⟨h1, h3, h2⟩
  all_goals
    rw [h2]
    clear h2
    go_enter Tryz.func159, Tryz.ntmps159
    go_wp2_with (go_at_call 187; refine (isNaN_any _ _).mono ?_; rintro e w' ⟨rfl, rfl⟩)
    go_ret
    exact ⟨rfl, rfl⟩
theorem place1_any (i k f t z r id : Int) (w : World) : Calls Tryz.prog 175 #[tk i k f t z r, .int .i64 id] w fun e w' => e = .returned (.int .i64 (cmpV i id)) ∧ Below w.heap.size w w' := by
  go_enter Tryz.func175, Tryz.ntmps175
  go_wp2_with (go_at_call 159; refine (compare_any _ _ _).mono ?_; rintro e w' ⟨rfl, rfl⟩)
  go_ret
  exact ⟨rfl, (Below.refl _ _).alloc (Nat.le_refl _) _⟩
def Rising (T : List TK) : Prop := ∀ (p q : Nat) (x y : TK), T[p]? = some x → T[q]? = some y → p < q → x.i < y.i
def posT (T : List TK) (id : Int) : Nat := T.findIdx fun x => decide (id ≤ x.i)
def hasT (T : List TK) (id : Int) : Bool := T.any fun x => x.i == id
theorem posT_of {T : List TK} {id : Int} {n : Nat} (hn : n ≤ T.length) (h1 : ∀ q x, T[q]? = some x → q < n → x.i < id) (h2 : ∀ q x, T[q]? = some x → n ≤ q → id ≤ x.i) : posT T id = n := by
  unfold posT
  rcases Nat.lt_or_ge n T.length with h | h
  · rw [List.findIdx_eq h]
    refine ⟨?_, fun j hj => ?_⟩
    · simpa using h2 n T[n] (by simp [h]) (Nat.le_refl _)
    · have := h1 j (T[j]'(by omega)) (by simp) hj
      simpa using this
  · obtain rfl : n = T.length := by omega
    rw [List.findIdx_eq_length]
    intro x hx
    obtain ⟨j, hj⟩ := List.mem_iff_getElem?.1 hx
    have := h1 j x hj (List.getElem?_eq_some_iff.1 hj).1
    simpa using this
theorem hasT_at {T : List TK} {id : Int} {n : Nat} {x : TK} (hr : Rising T) (hx : T[n]? = some x) (h1 : ∀ q x, T[q]? = some x → q < n → x.i < id) (h2 : ∀ q x, T[q]? = some x → n ≤ q → id ≤ x.i) : hasT T id = decide (cmpV x.i id = 0) := by
  have h3 := h2 n x hx (Nat.le_refl _)
  have e : (cmpV x.i id = 0) ↔ x.i = id := by
    unfold cmpV
    split
    · omega
    · split <;> omega
  by_cases h : x.i = id
  · rw [decide_eq_true (e.2 h), hasT, List.any_eq_true]
    exact ⟨x, List.mem_of_getElem? hx, by simpa using h⟩
  · rw [decide_eq_false (fun hh => h (e.1 hh)), hasT, List.any_eq_false]
    intro y hy
    obtain ⟨j, hj⟩ := List.mem_iff_getElem?.1 hy
    rcases Nat.lt_trichotomy j n with hjn | rfl | hjn
    · have := h1 j y hj hjn
      simp; omega
    · rw [hx] at hj
      cases hj
      simpa using h
    · have := hr n j x y hx hj hjn
      simp; omega
theorem hasT_none {T : List TK} {id : Int} (h1 : ∀ q x, T[q]? = some x → q < T.length → x.i < id) : hasT T id = false := by
  rw [hasT, List.any_eq_false]
  intro y hy
  obtain ⟨j, hj⟩ := List.mem_iff_getElem?.1 hy
  have := h1 j y hj (List.getElem?_eq_some_iff.1 hj).1
  simp; omega
set_option maxHeartbeats 3200000 in
theorem search_any (T : List TK) (id : Int) (o : Option Addr) (cap : Nat) (w : World) (hT : TiksAt w o T) (hlen : T.length ≤ 12) (hr : Rising T) :
    Calls Tryz.prog 174 #[.slice o T.length cap, .int .i64 id, .func (.func 175) #[] #[]] w fun e w' =>
      e = .returned (.tuple #[.int .i64 (posT T id), .bool (hasT T id)]) ∧ Below w.heap.size w w' := by
  have HT := hide hT
  have HR := hide hr
  clear hT hr
  go_enter Tryz.func174, Tryz.ntmps174
  go_wp2_with fail
  go_loopw [9, 10] (fun a b wr => ∃ (lo hi : Nat), lo ≤ hi ∧ hi ≤ T.length ∧ a = .int .i64 lo ∧ b = .int .i64 hi ∧ Hid ((∀ q x, T[q]? = some x → q < lo → x.i < id) ∧ (∀ q x, T[q]? = some x → hi ≤ q → id ≤ x.i)) ∧ Below w.heap.size w wr) (fun a b _ => (intOf b).toNat - (intOf a).toNat)
  case atStart => exact ⟨0, T.length, Nat.zero_le _, Nat.le_refl _, rfl, rfl, ⟨fun q x _ h => by omega, fun q x h hq => by have := (List.getElem?_eq_some_iff.1 h).1; omega⟩, Below.refl _ _⟩
  case round =>
    obtain ⟨lo, hi, hlh, hhn, rfl, rfl, hI, hbr⟩ := hrel
    by_cases hgo : lo < hi
    · obtain ⟨p, hp⟩ : ∃ p, T[(lo + hi) / 2]? = some p := ⟨T[(lo + hi) / 2]'(by omega), by simp⟩
      obtain ⟨A, rfl, c0, c1, c2, c3, c4, c5⟩ := (HT.out.below hbr) _ p hp
      have HP := hide hp
      clear hp
      go_wp2_with fail
      refine (place1_any _ _ _ _ _ _ _ _).mono ?_
      rintro e w3 ⟨rfl, hb3⟩
      have hbr3 := hbr.trans (hb3.mono hbr.size)
      clear hbr hb3 c0 c1 c2 c3 c4 c5
      by_cases hx : p.i < id
      · have hc : cmpV p.i id = -1 := if_pos hx
        rw [hc]
        have HI : Hid ((∀ q x, T[q]? = some x → q < (lo + hi) / 2 + 1 → x.i < id) ∧ (∀ q x, T[q]? = some x → hi ≤ q → id ≤ x.i)) := by
          refine ⟨fun q x hq hlt => ?_, hI.out.2⟩
          rcases Nat.lt_or_ge q ((lo + hi) / 2) with h | h
          · have := HR.out q _ x p hq HP.out h
            omega
          · obtain rfl : q = (lo + hi) / 2 := by omega
            rw [HP.out] at hq
            cases hq
            exact hx
        clear hc hx
        go_wp2_with fail
        exact ⟨⟨(lo + hi) / 2 + 1, hi, by omega, hhn, by simp, rfl, HI, hbr3⟩, by simp [intOf]; omega⟩
      · have hc : ¬ cmpV p.i id < 0 := by
          unfold cmpV
          rw [if_neg hx]
          split <;> omega
        have HI : Hid ((∀ q x, T[q]? = some x → q < lo → x.i < id) ∧ (∀ q x, T[q]? = some x → (lo + hi) / 2 ≤ q → id ≤ x.i)) := by
          refine ⟨hI.out.1, fun q x hq hlt => ?_⟩
          rcases Nat.lt_or_ge ((lo + hi) / 2) q with h | h
          · have := HR.out _ q p x HP.out hq h
            omega
          · obtain rfl : q = (lo + hi) / 2 := by omega
            rw [HP.out] at hq
            cases hq
            omega
        generalize cmpV p.i id = c at *
        go_wp2_with fail
        exact ⟨⟨lo, (lo + hi) / 2, by omega, by omega, rfl, by simp, HI, hbr3⟩, by simp [intOf]; omega⟩
    · obtain rfl : lo = hi := by omega
      have HPos := hide (posT_of hhn hI.out.1 hI.out.2)
      rcases Nat.lt_or_ge lo T.length with hlt | hge
      · obtain ⟨p, hp⟩ : ∃ p, T[lo]? = some p := ⟨T[lo], by simp [hlt]⟩
        obtain ⟨A, rfl, c0, c1, c2, c3, c4, c5⟩ := (HT.out.below hbr) _ p hp
        have HHas := hide (hasT_at HR.out hp hI.out.1 hI.out.2)
        clear hp
        go_wp2_with fail
        refine (place1_any _ _ _ _ _ _ _ _).mono ?_
        rintro e w3 ⟨rfl, hb3⟩
        have hbr3 := hbr.trans (hb3.mono hbr.size)
        clear hbr hb3 c0 c1 c2 c3 c4 c5
        go_wp2_with fail
        go_ret2
        refine ⟨?_, hbr3⟩
        rw [HPos.out, HHas.out]
        rfl
      · obtain rfl : lo = T.length := by omega
        have HHas := hide (hasT_none hI.out.1)
        go_wp2_with fail
        go_ret2
        refine ⟨?_, hbr⟩
        rw [HPos.out, HHas.out]
        rfl
theorem place_any (T : List TK) (id : Int) (o1 o2 o3 : Option Addr) (c1 n2 c2 n3 c3 : Nat) (w : World) (hT : TiksAt w o1 T) (hlen : T.length ≤ 12) (hr : Rising T) :
    Calls Tryz.prog 149 #[lg o1 o2 o3 T.length c1 n2 c2 n3 c3, .int .i64 id] w fun e w' =>
      e = .returned (.tuple #[.int .i64 (posT T id), .bool (hasT T id)]) ∧ Below w.heap.size w w' := by
  have HS := hide (fun W (h : TiksAt W o1 T) => search_any T id o1 c1 W h hlen hr)
  have HT := hide hT
  clear hT hr hlen
  go_enter Tryz.func149, Tryz.ntmps149
  go_wp2_with fail
  refine (HS.out _ (HT.out.below ((Below.refl _ _).alloc (Nat.le_refl _) _))).mono ?_
  rintro e w3 ⟨rfl, hb3⟩
  go_wp2_with fail
  go_ret2
  exact ⟨rfl, ((Below.refl _ _).alloc (Nat.le_refl _) _).trans (hb3.mono (by simp))⟩
end Go.Proofs.YtcjfmbeemdcklaaGreat

/-
  'unfit', 'early' (package ledger), with what looks for a tap of the same gate and Seq.
-/
namespace Go.Proofs.YtcjfmbeemdcklaaGreat
open Go.RowKit
theorem unfit1_any (a g s m z : Int) (p : TP) (B : Nat) (w : World) (hc : Tap5 w ⟨B, 0, none⟩ p) :
    Calls Tryz.prog 189 #[tp a g s m z, .pointer (some ⟨B, 0, none⟩)] w fun e w' => e = .returned (.bool (g == p.g && s == p.s)) ∧ Below w.heap.size w w' := by
  have hlt := hc.lt
  obtain ⟨c0, c1, c2, c3, c4⟩ := hc
  simp only [Nat.zero_add] at c0 c1 c2 c3 c4 hlt
  cases h1 : (g == p.g)
  all_goals
    go_enter Tryz.func189, Tryz.ntmps189
    go_wp2_with fail
    go_ret
    exact ⟨rfl, (Below.refl _ _).alloc (Nat.le_refl _) _⟩
theorem indexU_any (p : TP) (B : Nat) (o : Option Addr) (cap : Nat) (L : List TP) (w : World) (hL : TapsAt w o L) (hlen : L.length ≤ 9223372036854775807) (hc : Tap5 w ⟨B, 0, none⟩ p) :
    Calls Tryz.prog 168 #[.slice o L.length cap, .func (.func 189) #[] #[.pointer (some ⟨B, 0, none⟩)]] w fun e w' =>
      (∃ n : Int, e = .returned (.int .i64 n) ∧ decide (0 ≤ n) = twiceT L p) ∧ Below w.heap.size w w' := by
  have HL := hide hL
  have HC := hide hc
  clear hL hc
  go_enter Tryz.func168, Tryz.ntmps168
  go_wp2_with fail
  go_loopw [8] (fun j wr => ∃ (q : Nat), q ≤ L.length ∧ j = .int .i64 q ∧ Hid (twiceT (L.take q) p = false) ∧ Below w.heap.size w wr) (fun j _ => L.length - (intOf j).toNat)
  case atStart => exact ⟨0, Nat.zero_le _, rfl, by show _ = _; simp [twiceT], Below.refl _ _⟩
  case round =>
    obtain ⟨q, hq, rfl, hF, hbr⟩ := hrel
    by_cases hgo : q < L.length
    · obtain ⟨x, hp⟩ : ∃ x, L[q]? = some x := ⟨L[q], by simp [hgo]⟩
      have HS : Hid (twiceT (L.take (q + 1)) p = (x.g == p.g && x.s == p.s)) := by
        show _ = _
        have h0 := hF.out
        unfold twiceT at h0 ⊢
        rw [List.take_add_one, hp, Option.toList_some, List.any_append, h0]
        simp
      obtain ⟨A, rfl, c0, c1, c2, c3, c4⟩ := (HL.out.below hbr) q x hp
      have HP := hide hp
      clear hp
      go_wp2_with fail
      refine (unfit1_any _ _ _ _ _ p B _ (HC.out.below hbr HC.out.lt)).mono ?_
      rintro e w3 ⟨rfl, hb3⟩
      have hbr3 := hbr.trans (hb3.mono hbr.size)
      clear hbr hb3
      cases hx : (x.g == p.g && x.s == p.s)
      · rw [hx] at HS
        go_wp2_with fail
        exact ⟨⟨q + 1, by omega, by simp, HS, hbr3⟩, by simp [intOf]; omega⟩
      · go_wp2_with fail
        go_ret
        refine ⟨⟨q, rfl, ?_⟩, hbr3⟩
        have hp := HP.out
        have : twiceT L p = true := by
          unfold twiceT
          rw [List.any_eq_true]
          exact ⟨x, List.mem_of_getElem? hp, hx⟩
        simp [this]
    · go_wp2_with fail
      go_ret
      refine ⟨⟨-1, rfl, ?_⟩, hbr⟩
      have h1 := hF.out
      rw [List.take_of_length_le (by omega)] at h1
      simp [h1]
theorem containsU_any (p : TP) (B : Nat) (o : Option Addr) (cap : Nat) (L : List TP) (w : World) (hL : TapsAt w o L) (hlen : L.length ≤ 9223372036854775807) (hc : Tap5 w ⟨B, 0, none⟩ p) :
    Calls Tryz.prog 139 #[.slice o L.length cap, .func (.func 189) #[] #[.pointer (some ⟨B, 0, none⟩)]] w fun e w' =>
      e = .returned (.bool (twiceT L p)) ∧ Below w.heap.size w w' := by
  have HI := hide (indexU_any p B o cap L w hL hlen hc)
  clear hL hc
  go_enter Tryz.func139, Tryz.ntmps139
  go_wp2_with fail
  refine HI.out.mono ?_
  rintro e w' ⟨⟨n, rfl, hn⟩, hb⟩
  have HN := hide hn
  clear hn
  go_wp2_with fail
  go_ret
  exact ⟨by rw [← HN.out]; rfl, hb⟩
abbrev cL (o1 o2 o3 : Option Addr) (n1 c1 n2 c2 n3 c3 : Nat) (T : TypeId) : Obj := .cells #[.slice o1 n1 c1, .slice o2 n2 c2, .slice o3 n3 c3] T
structure Led3 (w : World) (b : Nat) (o1 o2 o3 : Option Addr) (n1 c1 n2 c2 n3 c3 : Nat) : Prop where
  c0 : w.cell? ⟨b, 0, none⟩ = some (.slice o1 n1 c1)
  c1 : w.cell? ⟨b, 1, none⟩ = some (.slice o2 n2 c2)
  c2 : w.cell? ⟨b, 2, none⟩ = some (.slice o3 n3 c3)
theorem Led3.lt {w : World} {b : Nat} {o1 o2 o3 : Option Addr} {n1 c1 n2 c2 n3 c3 : Nat} (h : Led3 w b o1 o2 o3 n1 c1 n2 c2 n3 c3) : b < w.heap.size := World.block_lt_of_cell? w ⟨b, 0, none⟩ h.c0
theorem Led3.below {B : Nat} {w w' : World} {b : Nat} {o1 o2 o3 : Option Addr} {n1 c1 n2 c2 n3 c3 : Nat} (h : Led3 w b o1 o2 o3 n1 c1 n2 c2 n3 c3) (hb : Below B w w') (hlt : b < B) : Led3 w' b o1 o2 o3 n1 c1 n2 c2 n3 c3 :=
  ⟨by rw [hb.cell (p := ⟨b, 0, none⟩) hlt]; exact h.c0, by rw [hb.cell (p := ⟨b, 1, none⟩) hlt]; exact h.c1, by rw [hb.cell (p := ⟨b, 2, none⟩) hlt]; exact h.c2⟩
def BoxesB (w w1 : World) (o1 o2 o3 : Option Addr) (n1 c1 n2 c2 n3 c3 : Nat) (p : TP) : Prop :=
  Led3 w1 w.heap.size o1 o2 o3 n1 c1 n2 c2 n3 c3 ∧ Tap5 w1 ⟨w.heap.size + 1, 0, none⟩ p ∧ w.heap.size + 1 < w1.heap.size ∧ Below w.heap.size w w1
theorem boxesB_of (o1 o2 o3 : Option Addr) (n1 c1 n2 c2 n3 c3 : Nat) (a g s m zone : Int) (T1 T2 : TypeId) (w w1 : World) (h : Below ((w.alloc (cL o1 o2 o3 n1 c1 n2 c2 n3 c3 T1)).alloc (cP a g s m zone T2)).heap.size ((w.alloc (cL o1 o2 o3 n1 c1 n2 c2 n3 c3 T1)).alloc (cP a g s m zone T2)) w1) :
    BoxesB w w1 o1 o2 o3 n1 c1 n2 c2 n3 c3 ⟨a, g, s, m, zone⟩ := by
  have s1 := h.size
  simp at s1
  refine ⟨Led3.below (w := (w.alloc (cL o1 o2 o3 n1 c1 n2 c2 n3 c3 T1)).alloc (cP a g s m zone T2)) ⟨?_, ?_, ?_⟩ h (by simp; omega), Tap5.below (w := (w.alloc (cL o1 o2 o3 n1 c1 n2 c2 n3 c3 T1)).alloc (cP a g s m zone T2)) ⟨?_, ?_, ?_, ?_, ?_⟩ h (by simp), by omega,
    Below.trans (((Below.refl _ _).alloc (Nat.le_refl _) _).alloc (by simp) _) (h.mono (by simp; omega))⟩
  all_goals simp [go_sem]
theorem BoxesB.on {w w1 w2 : World} {o1 o2 o3 : Option Addr} {n1 c1 n2 c2 n3 c3 : Nat} {p : TP} (h : BoxesB w w1 o1 o2 o3 n1 c1 n2 c2 n3 c3 p) (hb : Below w1.heap.size w1 w2) : BoxesB w w2 o1 o2 o3 n1 c1 n2 c2 n3 c3 p :=
  ⟨h.1.below hb h.1.lt, h.2.1.below hb h.2.1.lt, Nat.lt_of_lt_of_le h.2.2.1 hb.size, h.2.2.2.trans (hb.mono h.2.2.2.size)⟩
def unf (T : List TK) (P : List TP) (p : TP) : Int := firstE [chkT p, if hasT T p.a = true then 0 else 5, if twiceT P p = true then 6 else 0]
set_option maxHeartbeats 3200000 in
theorem unfit_any (T : List TK) (P : List TP) (o1 o2 o3 : Option Addr) (c1 c2 n3 c3 : Nat) (a g s m z : Int) (w : World) (hT : TiksAt w o1 T) (hP : TapsAt w o2 P) (hlen : T.length ≤ 12) (hlen2 : P.length ≤ 60) (hr : Rising T) :
    Calls Tryz.prog 170 #[lg o1 o2 o3 T.length c1 P.length c2 n3 c3, tp a g s m z] w fun e w' => e = .returned (.int .i64 (unf T P ⟨a, g, s, m, z⟩)) ∧ Below w.heap.size w w' := by
  have HT := hide hT
  have HP := hide hP
  have HC := hide (fun W => checkP_any a g s m z W)
  have HPl := hide (fun W (h : TiksAt W o1 T) => place_any T a o1 o2 o3 c1 P.length c2 n3 c3 W h hlen hr)
  have HX := hide (fun W B (h : TapsAt W o2 P) (hc : Tap5 W ⟨B, 0, none⟩ ⟨a, g, s, m, z⟩) => containsU_any ⟨a, g, s, m, z⟩ B o2 c2 P W h (by omega) hc)
  clear hT hP hr hlen hlen2
  generalize hU : unf T P ⟨a, g, s, m, z⟩ = U
  have hc : ((chkP a g s m z != 0) = true ∧ U = chkP a g s m z) ∨ (chkP a g s m z = 0 ∧ hasT T a = false ∧ U = 5) ∨ (chkP a g s m z = 0 ∧ hasT T a = true ∧ twiceT P ⟨a, g, s, m, z⟩ = true ∧ U = 6) ∨ (chkP a g s m z = 0 ∧ hasT T a = true ∧ twiceT P ⟨a, g, s, m, z⟩ = false ∧ U = 0) := by
    rw [← hU]
    unfold unf
    by_cases h1 : chkP a g s m z = 0
    · cases h2 : hasT T a
      · simp [firstE, chkT, h1]
      · cases h3 : twiceT P ⟨a, g, s, m, z⟩ <;> simp [firstE, chkT, h1]
    · simp [firstE, chkT, h1]
  clear hU
  generalize chkP a g s m z = X at *
  generalize hasT T a = Y at *
  generalize twiceT P ⟨a, g, s, m, z⟩ = Z at *
  rcases hc with ⟨h1, rfl⟩ | ⟨rfl, rfl, rfl⟩ | ⟨rfl, rfl, rfl, rfl⟩ | ⟨rfl, rfl, rfl, rfl⟩
  all_goals
    go_enter Tryz.func170, Tryz.ntmps170
    go_wp2_with fail
    refine (HC.out _).mono ?_
    rintro e w1 ⟨rfl, hb1⟩
    have HB1 := hide (boxesB_of _ _ _ _ _ _ _ _ _ _ _ _ _ _ _ _ _ _ hb1)
    clear hb1
    obtain ⟨⟨x0, x1, x2⟩, ⟨y0, y1, y2, y3, y4⟩, -, -⟩ := HB1.out
    simp only [Nat.zero_add] at x0 x1 x2 y0 y1 y2 y3 y4
    go_wp2_with fail
  · go_ret
    exact ⟨rfl, HB1.out.2.2.2⟩
  all_goals
    refine (HPl.out _ (HT.out.below HB1.out.2.2.2)).mono ?_
    rintro e w2 ⟨rfl, hb2⟩
    have HB2 := hide (HB1.out.on hb2)
    clear hb2 HB1 x0 x1 x2 y0 y1 y2 y3 y4
    obtain ⟨⟨x0, x1, x2⟩, ⟨y0, y1, y2, y3, y4⟩, -, -⟩ := HB2.out
    simp only [Nat.zero_add] at x0 x1 x2 y0 y1 y2 y3 y4
    go_wp2_with fail
  · go_ret
    exact ⟨rfl, HB2.out.2.2.2⟩
  all_goals
    refine (HX.out _ _ (HP.out.below HB2.out.2.2.2) HB2.out.2.1).mono ?_
    rintro e w3 ⟨rfl, hb3⟩
    have HB3 := hide (HB2.out.on hb3)
    clear hb3 HB2 x0 x1 x2 y0 y1 y2 y3 y4
    go_wp2_with fail
    go_ret
    exact ⟨rfl, HB3.out.2.2.2⟩
def earlyB (P : List TP) (m : Int) : Bool := match P.getLast? with
  | none => false
  | some p => decide (m < p.m)
set_option maxHeartbeats 3200000 in
theorem early_any (P : List TP) (o1 o2 o3 : Option Addr) (n1 c1 c2 n3 c3 : Nat) (a g s m z : Int) (w : World) (hP : TapsAt w o2 P) (hlen : P.length ≤ 60) :
    Calls Tryz.prog 171 #[lg o1 o2 o3 n1 c1 P.length c2 n3 c3, tp a g s m z] w fun e w' => e = .returned (.bool (earlyB P m)) ∧ Below w.heap.size w w' := by
  rcases hn : P.length with _ | n
  · have hL0 : P = [] := List.eq_nil_of_length_eq_zero hn
    subst hL0
    clear hP
    go_enter Tryz.func171, Tryz.ntmps171
    go_wp2
    go_region
    go_wp2
    go_ret
    exact ⟨by simp [earlyB], (((Below.refl _ _).alloc (Nat.le_refl _) _).alloc (by simp) _).drew⟩
  · obtain ⟨p, hp⟩ : ∃ p, P[n]? = some p := ⟨P[n]'(by omega), by simp [hn]⟩
    have HE : Hid (earlyB P m = decide (m < p.m)) := by
      show _ = _
      rw [earlyB, List.getLast?_eq_getElem?, hn, Nat.add_sub_cancel, hp]
    obtain ⟨A, rfl, h5⟩ := hP n p hp
    have hnb : n < 60 := by omega
    obtain ⟨d0, d1, d2, d3, d4⟩ := h5.below (((Below.refl w.heap.size w).alloc (Nat.le_refl _) (cL o1 (some A) o3 n1 c1 (n + 1) c2 n3 c3 136)).alloc (by simp) (cP a g s m z 58)) h5.lt
    clear h5 hP hp hn hlen
    go_enter Tryz.func171, Tryz.ntmps171
    go_wp2
    go_region
    go_wp2
    go_ret
    exact ⟨by rw [HE.out]; rfl, (((Below.refl _ _).alloc (Nat.le_refl _) _).alloc (by simp) _).drew⟩
end Go.Proofs.YtcjfmbeemdcklaaGreat

/-
  'rides' (package ledger): the rides that were counted of a ticket, in order.
-/
namespace Go.Proofs.YtcjfmbeemdcklaaGreat
open Go.RowKit
theorem info32 : (Tryz.prog.info? 58).map (fun i => (i.zero, i.size, i.bytes)) = some (some (.agg #[.int .i64 0, .int .i64 0, .int .i64 0, .int .i64 0, .int .i64 0]), 5, 40) := by kernel_rfl
def cellsP (L : List TP) : List Value := L.flatMap fun p => [.int .i64 p.a, .int .i64 p.g, .int .i64 p.s, .int .i64 p.m, .int .i64 p.z]
theorem cellsP_len (L : List TP) : (cellsP L).length = L.length * 5 := by
  induction L with
  | nil => rfl
  | cons p L ih =>
    rw [cellsP, List.flatMap_cons, List.length_append, List.length_cons, ← cellsP, ih]
    simp; omega
theorem cellsP_snoc (L : List TP) (p : TP) : cellsP (L ++ [p]) = cellsP L ++ [.int .i64 p.a, .int .i64 p.g, .int .i64 p.s, .int .i64 p.m, .int .i64 p.z] := by simp [cellsP]
theorem cellsP_get (L : List TP) (i : Nat) (p : TP) (h : L[i]? = some p) (j : Nat) (hj : j < 5) : (cellsP L)[i * 5 + j]? = [Value.int .i64 p.a, .int .i64 p.g, .int .i64 p.s, .int .i64 p.m, .int .i64 p.z][j]? := by
  induction L generalizing i with
  | nil => simp at h
  | cons q L ih =>
    rw [cellsP, List.flatMap_cons, ← cellsP]
    match i, h with
    | 0, h =>
      simp at h
      subst h
      rw [List.getElem?_append_left (by simp; omega)]
      simp
    | i + 1, h =>
      rw [List.getElem?_append_right (by simp; omega)]
      simp only [List.length_cons, List.length_nil]
      rw [show (i + 1) * 5 + j - (0 + 1 + 1 + 1 + 1 + 1) = i * 5 + j by omega]
      exact ih i (by simpa using h)
theorem add_block (a : Addr) (n : Nat) : (a.add n).block = a.block := by
  unfold Addr.add
  split <;> rfl
theorem taps_own {w : World} {base n : Nat} {v : Value} {L : List TP} (h : w.ownsRow base 58 5 v n (cellsP L)) : n = L.length ∧ ∃ (o : Option Addr) (cap : Nat), v = .slice o L.length cap ∧ TapsAt w o L := by
  have hn : n = L.length := by have := h.1; rw [cellsP_len] at this; omega
  subst hn
  refine ⟨rfl, ?_⟩
  have hc := fun g => h.cells (g := g)
  rcases h.2 with ⟨rfl, h0⟩ | ⟨g, cap, cur, rfl, -⟩
  · have : L = [] := List.eq_nil_of_length_eq_zero h0
    subst this
    exact ⟨none, 0, rfl, fun i p hi => by simp at hi⟩
  · refine ⟨_, cap, rfl, fun i p hi => ⟨_, rfl, ?_⟩⟩
    have e := fun j hj => cellsP_get L i p hi j hj
    have c := fun j u hu => hc g rfl (i * 5 + j) u hu
    have a0 : ∀ j, ((⟨g, 0, none⟩ : Addr).add (i * 5 + j)) = ⟨((⟨g, 0, none⟩ : Addr).add (i * 5)).block, ((⟨g, 0, none⟩ : Addr).add (i * 5)).off + j, none⟩ := by
      intro j
      by_cases h1 : i * 5 = 0 <;> by_cases h2 : j = 0 <;> simp [Addr.add, h1, h2]
    refine ⟨?_, ?_, ?_, ?_, ?_⟩
    · have := c 0 _ (e 0 (by omega))
      simpa using this
    · rw [← a0]; exact c 1 _ (e 1 (by omega))
    · rw [← a0]; exact c 2 _ (e 2 (by omega))
    · rw [← a0]; exact c 3 _ (e 3 (by omega))
    · rw [← a0]; exact c 4 _ (e 4 (by omega))
def ridesL (X : List (TP × Int)) (id : Int) : List TP := (X.filter fun x => x.1.a == id && x.2 == 1).map (·.1)
theorem ridesL_snoc (X : List (TP × Int)) (x : TP × Int) (id : Int) : ridesL (X ++ [x]) id = if (x.1.a == id && x.2 == 1) = true then ridesL X id ++ [x.1] else ridesL X id := by
  unfold ridesL
  rw [List.filter_append]
  by_cases h : (x.1.a == id && x.2 == 1) = true
  · simp only [List.filter_cons, h, if_true, List.filter_nil, List.map_append, List.map_cons, List.map_nil]
  · simp only [List.filter_cons, h, List.filter_nil]
    simp
theorem five_new (w : World) (a g s m z : Int) (T : TypeId) : ∀ j u, [Value.int .i64 a, .int .i64 g, .int .i64 s, .int .i64 m, .int .i64 z][j]? = some u → (w.alloc (cP a g s m z T)).cell? ((⟨w.heap.size, 0, none⟩ : Addr).add j) = some u := by
  intro j u hj
  match j, hj with
  | 0, hj | 1, hj | 2, hj | 3, hj | 4, hj =>
    simp at hj
    subst hj
    simp [Addr.add, go_sem]
set_option maxHeartbeats 3200000 in
theorem rides_any (P : List TP) (V : List Int) (id : Int) (o1 o2 o3 : Option Addr) (n1 c1 c2 c3 : Nat) (w : World) (hP : TapsAt w o2 P) (hV : IntsAt w o3 V) (hlen : P.length ≤ 60) (hlv : V.length = P.length) :
    Calls Tryz.prog 190 #[lg o1 o2 o3 n1 c1 P.length c2 V.length c3, .int .i64 id] w fun e w' =>
      (∃ o cap, e = .returned (.slice o (ridesL (P.zip V) id).length cap) ∧ TapsAt w' o (ridesL (P.zip V) id)) ∧ Below w.heap.size w w' := by
  obtain ⟨i0, hi, hz0, hz1, hz2⟩ := info_parts info32
  have HP := hide hP
  have HV := hide hV
  have hlen2 : V.length ≤ 60 := by omega
  have HLV := hide hlv
  clear hP hV hlv
  go_enter Tryz.func190, Tryz.ntmps190
  go_wp2_with fail
  go_loopw [5, 12] (fun v j wr => ∃ (q : Nat), q ≤ P.length ∧ j = .int .i64 q ∧ wr.ownsRow (w.heap.size + 1) 58 5 v (ridesL ((P.zip V).take q) id).length (cellsP (ridesL ((P.zip V).take q) id)) ∧ (ridesL ((P.zip V).take q) id).length ≤ q ∧
    Below (w.heap.size + 1) (w.alloc (cL o1 o2 o3 n1 c1 P.length c2 V.length c3 136)) wr) (fun _ j _ => P.length - (intOf j).toNat)
  case atStart => exact ⟨0, Nat.zero_le _, rfl, World.ownsRow_nil _ _ _ _, by simp [ridesL], Below.refl _ _⟩
  case round =>
    obtain ⟨q, hq, rfl, hown, hql, hbr⟩ := hrel
    have d0 : wr.cell? ⟨w.heap.size, 0, none⟩ = some (.slice o1 n1 c1) := by rw [hbr.cell (p := ⟨w.heap.size, 0, none⟩) (show w.heap.size < w.heap.size + 1 by omega)]; simp [go_sem]
    have d1 : wr.cell? ⟨w.heap.size, 1, none⟩ = some (.slice o2 P.length c2) := by rw [hbr.cell (p := ⟨w.heap.size, 1, none⟩) (show w.heap.size < w.heap.size + 1 by omega)]; simp [go_sem]
    have d2 : wr.cell? ⟨w.heap.size, 2, none⟩ = some (.slice o3 V.length c3) := by rw [hbr.cell (p := ⟨w.heap.size, 2, none⟩) (show w.heap.size < w.heap.size + 1 by omega)]; simp [go_sem]
    have hsz : w.heap.size < wr.heap.size := World.block_lt_of_cell? wr ⟨w.heap.size, 0, none⟩ d0
    have HB := hide (show Below w.heap.size w wr from ((Below.refl _ _).alloc (Nat.le_refl _) _).trans (hbr.mono (by omega)))
    by_cases hlt : q < P.length
    · obtain ⟨p, hp⟩ : ∃ p, P[q]? = some p := ⟨P[q], by simp [hlt]⟩
      obtain ⟨v, hv⟩ : ∃ v, V[q]? = some v := ⟨V[q]'(by have := HLV.out; omega), by simp⟩
      have HS : Hid (ridesL ((P.zip V).take (q + 1)) id = if (p.a == id && v == 1) = true then ridesL ((P.zip V).take q) id ++ [p] else ridesL ((P.zip V).take q) id) := by
        show _ = _
        have : (P.zip V)[q]? = some (p, v) := by rw [List.getElem?_zip_eq_some]; exact ⟨hp, hv⟩
        rw [List.take_add_one, this, Option.toList_some, ridesL_snoc]
      obtain ⟨A, rfl, e0, e1, e2, e3, e4⟩ := (HP.out.below HB.out) q p hp
      obtain ⟨A3, rfl, f0⟩ := (HV.out.below HB.out) q v hv
      have hA : (A.add (q * 5)).block < wr.heap.size := World.block_lt_of_cell? wr (A.add (q * 5)) e0
      have hA3 : (A3.add q).block < wr.heap.size := World.block_lt_of_cell? wr (A3.add q) f0
      have hvl : q < V.length := by have := HLV.out; omega
      clear hp hv
      generalize ridesL ((P.zip V).take q) id = R at *
      cases h1 : (p.a == id)
      · have e := HS.out
        rw [h1] at e
        simp only [Bool.false_and, Bool.false_eq_true, if_false] at e
        have HE := hide e
        clear e
        go_wp2_with fail
        refine ⟨⟨q + 1, by omega, by simp, ?_, ?_, hbr.alloc (by omega) _⟩, by simp [intOf]; omega⟩
        · rw [HE.out]; exact hown.alloc _
        · rw [HE.out]; omega
      · cases h2 : (v == 1)
        · have e := HS.out
          rw [h1, h2] at e
          simp only [Bool.and_false, Bool.false_eq_true, if_false] at e
          have HE := hide e
          clear e
          go_wp2_with fail
          refine ⟨⟨q + 1, by omega, by simp, ?_, ?_, hbr.alloc (by omega) _⟩, by simp [intOf]; omega⟩
          · rw [HE.out]; exact hown.alloc _
          · rw [HE.out]; omega
        · have e := HS.out
          rw [h1, h2] at e
          simp only [Bool.and_true, if_true] at e
          have HE := hide e
          clear e
          have HN : Hid (∀ j u, [Value.int .i64 p.a, .int .i64 p.g, .int .i64 p.s, .int .i64 p.m, .int .i64 p.z][j]? = some u → ((wr.alloc (cP p.a p.g p.s p.m p.z 58)).alloc (cP p.a p.g p.s p.m p.z 58)).cell? ((⟨wr.heap.size + 1, 0, none⟩ : Addr).add j) = some u) := by
            have h := five_new (wr.alloc (cP p.a p.g p.s p.m p.z 58)) p.a p.g p.s p.m p.z 58
            rw [show (wr.alloc (cP p.a p.g p.s p.m p.z 58)).heap.size = wr.heap.size + 1 by simp] at h
            exact h
          go_wp2_with (at_builtin; refine wpList_append_own _ rfl (.tmp 30) (.tmp 32) 23 rfl (w.heap.size + 1) 58 i0 _ 5 40 Tryz.underlying23 hi hz0 hz1 hz2 rfl (by decide) _ R.length _ rfl ((hown.alloc _).alloc _) ⟨wr.heap.size + 1, 0, none⟩ 1 1 [.int .i64 p.a, .int .i64 p.g, .int .i64 p.s, .int .i64 p.m, .int .i64 p.z] rfl rfl HN.out (by intro u hu; simp at hu; rcases hu with rfl | rfl | rfl | rfl | rfl <;> rfl) (by unfold maxLen; omega) (by omega) (by simp; omega) ?_; intro v1 w1 hown1 hgrow1 _)
          refine ⟨⟨q + 1, by omega, by simp, ?_, ?_, ((hbr.alloc (by omega) _).alloc (by simp; omega) _).grown hgrow1 (by simp; omega) (fun k hk => (hown.lt k hk).1)⟩, by simp [intOf]; omega⟩
          · rw [HE.out, cellsP_snoc, List.length_append]; exact hown1
          · rw [HE.out, List.length_append]; simp; omega
    · obtain rfl : q = P.length := by omega
      rw [List.take_of_length_le (by rw [List.length_zip]; omega)] at hown
      obtain ⟨-, o, cap, rfl, hta⟩ := taps_own hown
      have HO := hide hta
      clear hown hta
      go_wp2_with fail
      go_ret
      exact ⟨⟨o, cap, rfl, HO.out⟩, HB.out⟩
end Go.Proofs.YtcjfmbeemdcklaaGreat

/-
  Tickets, taps and integers as cells of a row; a row that a call has made itself.
-/
namespace Go.Proofs.YtcjfmbeemdcklaaGreat
open Go.RowKit
theorem info23 : (Tryz.prog.info? 34).map (fun i => (i.zero, i.size, i.bytes)) = some (some (.agg #[.int .i64 0, .int .i64 0, .int .i64 0, .int .i64 0, .int .i64 0, .int .i64 0]), 6, 48) := by kernel_rfl
theorem info3 : (Tryz.prog.info? 3).map (fun i => (i.zero, i.size, i.bytes)) = some (some (.int .i64 0), 1, 8) := by kernel_rfl
theorem addr_off (A : Addr) (n r : Nat) (hr : 0 < r) : (⟨(A.add n).block, (A.add n).off + r, none⟩ : Addr) = A.add (n + r) := by
  by_cases h1 : n = 0
  · subst h1
    simp [Addr.add, Nat.ne_of_gt hr]
  · simp [Addr.add, h1, Nat.ne_of_gt hr]
    omega
def cellsK (L : List TK) : List Value := L.flatMap fun p => [.int .i64 p.i, .int .i64 p.k, .int .i64 p.f, .int .i64 p.t, .int .i64 p.z, .int .i64 p.r]
def cellsV (L : List Int) : List Value := L.map fun n => .int .i64 n
theorem cellsK_len (L : List TK) : (cellsK L).length = L.length * 6 := by
  induction L with
  | nil => rfl
  | cons p L ih =>
    rw [cellsK, List.flatMap_cons, List.length_append, List.length_cons, ← cellsK, ih]
    simp; omega
theorem cellsV_len (L : List Int) : (cellsV L).length = L.length * 1 := by simp [cellsV]
theorem cellsP_app (L M : List TP) : cellsP (L ++ M) = cellsP L ++ cellsP M := by simp [cellsP]
theorem cellsK_app (L M : List TK) : cellsK (L ++ M) = cellsK L ++ cellsK M := by simp [cellsK]
theorem cellsV_app (L M : List Int) : cellsV (L ++ M) = cellsV L ++ cellsV M := by simp [cellsV]
theorem cellsK_get (L : List TK) (i : Nat) (p : TK) (h : L[i]? = some p) (j : Nat) (hj : j < 6) : (cellsK L)[i * 6 + j]? = [Value.int .i64 p.i, .int .i64 p.k, .int .i64 p.f, .int .i64 p.t, .int .i64 p.z, .int .i64 p.r][j]? := by
  induction L generalizing i with
  | nil => simp at h
  | cons q L ih =>
    rw [cellsK, List.flatMap_cons, ← cellsK]
    match i, h with
    | 0, h =>
      simp at h
      subst h
      rw [List.getElem?_append_left (by simp; omega)]
      simp
    | i + 1, h =>
      rw [List.getElem?_append_right (by simp; omega)]
      simp only [List.length_cons, List.length_nil]
      rw [show (i + 1) * 6 + j - (0 + 1 + 1 + 1 + 1 + 1 + 1) = i * 6 + j by omega]
      exact ih i (by simpa using h)
theorem oneP (L : List TP) : ∀ u ∈ cellsP L, u.oneCell' = true := by
  intro u hu
  simp only [cellsP, List.mem_flatMap, List.mem_cons, List.not_mem_nil, or_false] at hu
  obtain ⟨p, -, h⟩ := hu
  rcases h with rfl | rfl | rfl | rfl | rfl <;> rfl
theorem oneK (L : List TK) : ∀ u ∈ cellsK L, u.oneCell' = true := by
  intro u hu
  simp only [cellsK, List.mem_flatMap, List.mem_cons, List.not_mem_nil, or_false] at hu
  obtain ⟨p, -, h⟩ := hu
  rcases h with rfl | rfl | rfl | rfl | rfl | rfl <;> rfl
theorem oneV (L : List Int) : ∀ u ∈ cellsV L, u.oneCell' = true := by
  intro u hu
  obtain ⟨p, -, rfl⟩ := List.mem_map.1 hu
  rfl
theorem taps_cells {w : World} {A : Addr} {L : List TP} (h : TapsAt w (some A) L) : ∀ j u, (cellsP L)[j]? = some u → w.cell? (A.add j) = some u := by
  intro j u hu
  have hlt := (List.getElem?_eq_some_iff.1 hu).1
  rw [cellsP_len] at hlt
  obtain ⟨p, hp⟩ : ∃ p, L[j / 5]? = some p := ⟨L[j / 5]'(by omega), by simp⟩
  obtain ⟨b, hb, c0, c1, c2, c3, c4⟩ := h _ p hp
  cases hb
  have hj : j = j / 5 * 5 + j % 5 := by omega
  have hr : j % 5 < 5 := by omega
  have e := cellsP_get L _ p hp (j % 5) hr
  rw [← hj, hu] at e
  generalize j / 5 = q at *
  generalize j % 5 = r at *
  subst hj
  match r, hr, e with
  | 0, _, e => simp at e; subst e; exact c0
  | 1, _, e => simp at e; subst e; rw [← addr_off _ _ _ (by decide)]; exact c1
  | 2, _, e => simp at e; subst e; rw [← addr_off _ _ _ (by decide)]; exact c2
  | 3, _, e => simp at e; subst e; rw [← addr_off _ _ _ (by decide)]; exact c3
  | 4, _, e => simp at e; subst e; rw [← addr_off _ _ _ (by decide)]; exact c4
theorem tiks_cells {w : World} {A : Addr} {L : List TK} (h : TiksAt w (some A) L) : ∀ j u, (cellsK L)[j]? = some u → w.cell? (A.add j) = some u := by
  intro j u hu
  have hlt := (List.getElem?_eq_some_iff.1 hu).1
  rw [cellsK_len] at hlt
  obtain ⟨p, hp⟩ : ∃ p, L[j / 6]? = some p := ⟨L[j / 6]'(by omega), by simp⟩
  obtain ⟨b, hb, c0, c1, c2, c3, c4, c5⟩ := h _ p hp
  cases hb
  have hj : j = j / 6 * 6 + j % 6 := by omega
  have hr : j % 6 < 6 := by omega
  have e := cellsK_get L _ p hp (j % 6) hr
  rw [← hj, hu] at e
  generalize j / 6 = q at *
  generalize j % 6 = r at *
  subst hj
  match r, hr, e with
  | 0, _, e => simp at e; subst e; exact c0
  | 1, _, e => simp at e; subst e; rw [← addr_off _ _ _ (by decide)]; exact c1
  | 2, _, e => simp at e; subst e; rw [← addr_off _ _ _ (by decide)]; exact c2
  | 3, _, e => simp at e; subst e; rw [← addr_off _ _ _ (by decide)]; exact c3
  | 4, _, e => simp at e; subst e; rw [← addr_off _ _ _ (by decide)]; exact c4
  | 5, _, e => simp at e; subst e; rw [← addr_off _ _ _ (by decide)]; exact c5
theorem ints_cells {w : World} {A : Addr} {L : List Int} (h : IntsAt w (some A) L) : ∀ j u, (cellsV L)[j]? = some u → w.cell? (A.add j) = some u := by
  intro j u hu
  rw [cellsV, List.getElem?_map, Option.map_eq_some_iff] at hu
  obtain ⟨n, hn, rfl⟩ := hu
  obtain ⟨b, hb, c⟩ := h j n hn
  cases hb
  exact c
def TapsV (w : World) (v : Value) (L : List TP) : Prop := ∃ o cap, v = .slice o L.length cap ∧ TapsAt w o L ∧ L.length ≤ cap ∧ (o = none → cap = 0)
def TiksV (w : World) (v : Value) (L : List TK) : Prop := ∃ o cap, v = .slice o L.length cap ∧ TiksAt w o L ∧ L.length ≤ cap ∧ (o = none → cap = 0)
def IntsV (w : World) (v : Value) (L : List Int) : Prop := ∃ o cap, v = .slice o L.length cap ∧ IntsAt w o L ∧ L.length ≤ cap ∧ (o = none → cap = 0)
theorem TapsV.below {w w' : World} {v : Value} {L : List TP} (h : TapsV w v L) (hb : Below w.heap.size w w') : TapsV w' v L := have ⟨o, c, e, h1, h2⟩ := h; ⟨o, c, e, h1.below hb, h2⟩
theorem TiksV.below {w w' : World} {v : Value} {L : List TK} (h : TiksV w v L) (hb : Below w.heap.size w w') : TiksV w' v L := have ⟨o, c, e, h1, h2⟩ := h; ⟨o, c, e, h1.below hb, h2⟩
theorem IntsV.below {w w' : World} {v : Value} {L : List Int} (h : IntsV w v L) (hb : Below w.heap.size w w') : IntsV w' v L := have ⟨o, c, e, h1, h2⟩ := h; ⟨o, c, e, h1.below hb, h2⟩
theorem tapsV_own {w : World} {base n : Nat} {v : Value} {L : List TP} (h : w.ownsRow base 58 5 v n (cellsP L)) : TapsV w v L := by
  obtain ⟨hn, o, cap, rfl, hT⟩ := taps_own h
  subst hn
  rcases h.2 with ⟨e, h0⟩ | ⟨g, c, cur, e, -, -, hc, -⟩
  · simp only [Value.slice.injEq] at e
    obtain ⟨rfl, -, rfl⟩ := e
    exact ⟨none, 0, rfl, hT, by omega, fun _ => rfl⟩
  · simp only [Value.slice.injEq] at e
    obtain ⟨rfl, -, rfl⟩ := e
    exact ⟨_, _, rfl, hT, hc, fun h => by cases h⟩
theorem tiksV_own {w : World} {base n : Nat} {v : Value} {L : List TK} (h : w.ownsRow base 34 6 v n (cellsK L)) : TiksV w v L := by
  have hn : n = L.length := by have := h.1; rw [cellsK_len] at this; omega
  subst hn
  have hc := fun g => h.cells (g := g)
  rcases h.2 with ⟨rfl, h0⟩ | ⟨g, cap, cur, rfl, -, -, hcap, -⟩
  · have : L = [] := List.eq_nil_of_length_eq_zero h0
    subst this
    exact ⟨none, 0, rfl, fun i p hi => by simp at hi, by simp, fun _ => rfl⟩
  · refine ⟨_, cap, rfl, fun i p hi => ⟨_, rfl, ?_⟩, hcap, fun h => by cases h⟩
    have e := fun j hj => cellsK_get L i p hi j hj
    have c := fun j u hu => hc g rfl (i * 6 + j) u hu
    refine ⟨?_, ?_, ?_, ?_, ?_, ?_⟩
    · have := c 0 _ (e 0 (by omega))
      simpa using this
    · rw [addr_off _ _ _ (by decide)]; exact c 1 _ (e 1 (by omega))
    · rw [addr_off _ _ _ (by decide)]; exact c 2 _ (e 2 (by omega))
    · rw [addr_off _ _ _ (by decide)]; exact c 3 _ (e 3 (by omega))
    · rw [addr_off _ _ _ (by decide)]; exact c 4 _ (e 4 (by omega))
    · rw [addr_off _ _ _ (by decide)]; exact c 5 _ (e 5 (by omega))
theorem intsV_own {w : World} {base n : Nat} {v : Value} {L : List Int} (h : w.ownsRow base 3 1 v n (cellsV L)) : IntsV w v L := by
  have hn : n = L.length := by have := h.1; rw [cellsV_len] at this; omega
  subst hn
  have hc := fun g => h.cells (g := g)
  rcases h.2 with ⟨rfl, h0⟩ | ⟨g, cap, cur, rfl, -, -, hcap, -⟩
  · have : L = [] := List.eq_nil_of_length_eq_zero h0
    subst this
    exact ⟨none, 0, rfl, fun i p hi => by simp at hi, by simp, fun _ => rfl⟩
  · exact ⟨_, cap, rfl, fun i p hi => ⟨_, rfl, hc g rfl i _ (by simp [cellsV, hi])⟩, hcap, fun h => by cases h⟩
end Go.Proofs.YtcjfmbeemdcklaaGreat

/-
  Lists, gates, tickets, taps and integers opened, out of the row.
-/
namespace Go.Proofs.YtcjfmbeemdcklaaGreat
open Go.ChangeShapes Go.WideShapes Go.ChangeAt Go.RowKit Go.Deep
theorem cellsDen : Tryz.prog.cellsOf 28 = 2 := by kernel_rfl
theorem cellsGate : Tryz.prog.cellsOf 49 = 8 := by kernel_rfl
theorem cellsBud : Tryz.prog.cellsOf 47 = 2 := by kernel_rfl
section
variable {H : Type} {enc : TypeId × Value → H}
theorem taps_ofV {W : World} {base fuel : Nat} {sp : Nat → Bool} {hd : Bool} {cs : List Value} {x : DataW H × List MemPlace} (h : DataW.trod enc Tryz.prog W base sp hd fuel 23 cs = some x) :
    ∃ (o : Option Addr) (L : List TP) (cap : Nat), cs = [.slice o L.length cap] ∧ TapsAt W o L ∧ L.length ≤ 9223372036854775807 ∧ L.length ≤ cap ∧ (o = none → cap = 0) := by
  rcases open_slice Tryz.underlying23 h with ⟨rfl, -⟩ | ⟨a, len, cap, m, n, D, Pl, rfl, hb, hl, hm, hmm, -, hx⟩
  · exact ⟨none, [], 0, rfl, fun i p h => by simp at h, by simp, by simp, fun _ => rfl⟩
  · rw [cells32] at hx
    have hle : len ≤ m := by rw [hmm]; split <;> omega
    have hT : ∀ i, i < len → ∃ p : TP, Tap5 W (a.add (i * 5)) p := by
      intro i hi
      obtain ⟨cs', h1, h2⟩ := hx i (by omega)
      obtain ⟨_, hlen, hc⟩ := World.cells?_some h1
      obtain ⟨b0, b1, b2, b3, b4, rfl⟩ := five_of hlen h2
      refine ⟨⟨b0, b1, b2, b3, b4⟩, ?_, ?_, ?_, ?_, ?_⟩
      · simpa [Addr.add] using hc 0 (by omega)
      · simpa [Addr.add] using hc 1 (by omega)
      · simpa [Addr.add] using hc 2 (by omega)
      · simpa [Addr.add] using hc 3 (by omega)
      · simpa [Addr.add] using hc 4 (by omega)
    haveI : Inhabited TP := ⟨⟨0, 0, 0, 0, 0⟩⟩
    obtain ⟨F, hF⟩ := choose_lt hT
    refine ⟨some a, (List.range len).map F, cap, by simp, ?_, ?_, by simpa using hl, fun h => by cases h⟩
    · intro i p hi
      rw [List.getElem?_map, Option.map_eq_some_iff] at hi
      obtain ⟨j, hj, rfl⟩ := hi
      obtain ⟨hlt, rfl⟩ : i < len ∧ i = j := by simpa using List.getElem?_eq_some_iff.1 hj
      exact ⟨a, rfl, hF i hlt⟩
    · have : maxLen = 9223372036854775807 := rfl
      simp
      omega
theorem tiks_ofV {W : World} {base fuel : Nat} {sp : Nat → Bool} {hd : Bool} {cs : List Value} {x : DataW H × List MemPlace} (h : DataW.trod enc Tryz.prog W base sp hd fuel 22 cs = some x) :
    ∃ (o : Option Addr) (L : List TK) (cap : Nat), cs = [.slice o L.length cap] ∧ TiksAt W o L ∧ L.length ≤ 9223372036854775807 ∧ L.length ≤ cap ∧ (o = none → cap = 0) := by
  rcases open_slice Tryz.underlying22 h with ⟨rfl, -⟩ | ⟨a, len, cap, m, n, D, Pl, rfl, hb, hl, hm, hmm, -, hx⟩
  · exact ⟨none, [], 0, rfl, fun i p h => by simp at h, by simp, by simp, fun _ => rfl⟩
  · rw [cells23] at hx
    have hle : len ≤ m := by rw [hmm]; split <;> omega
    have hT : ∀ i, i < len → ∃ p : TK, Tik6 W (a.add (i * 6)) p := by
      intro i hi
      obtain ⟨cs', h1, h2⟩ := hx i (by omega)
      obtain ⟨_, hlen, hc⟩ := World.cells?_some h1
      obtain ⟨b0, b1, b2, b3, b4, b5, rfl⟩ := six_of hlen h2
      refine ⟨⟨b0, b1, b2, b3, b4, b5⟩, ?_, ?_, ?_, ?_, ?_, ?_⟩
      · simpa [Addr.add] using hc 0 (by omega)
      · simpa [Addr.add] using hc 1 (by omega)
      · simpa [Addr.add] using hc 2 (by omega)
      · simpa [Addr.add] using hc 3 (by omega)
      · simpa [Addr.add] using hc 4 (by omega)
      · simpa [Addr.add] using hc 5 (by omega)
    haveI : Inhabited TK := ⟨⟨0, 0, 0, 0, 0, 0⟩⟩
    obtain ⟨F, hF⟩ := choose_lt hT
    refine ⟨some a, (List.range len).map F, cap, by simp, ?_, ?_, by simpa using hl, fun h => by cases h⟩
    · intro i p hi
      rw [List.getElem?_map, Option.map_eq_some_iff] at hi
      obtain ⟨j, hj, rfl⟩ := hi
      obtain ⟨hlt, rfl⟩ : i < len ∧ i = j := by simpa using List.getElem?_eq_some_iff.1 hj
      exact ⟨a, rfl, hF i hlt⟩
    · have : maxLen = 9223372036854775807 := rfl
      simp
      omega
theorem ints_ofV {W : World} {base fuel : Nat} {sp : Nat → Bool} {hd : Bool} {cs : List Value} {x : DataW H × List MemPlace} (h : DataW.trod enc Tryz.prog W base sp hd fuel 24 cs = some x) :
    ∃ (o : Option Addr) (L : List Int) (cap : Nat), cs = [.slice o L.length cap] ∧ IntsAt W o L ∧ L.length ≤ 9223372036854775807 ∧ L.length ≤ cap ∧ (o = none → cap = 0) := by
  rcases open_slice1 Tryz.underlying24 cells3' h with ⟨rfl, -⟩ | ⟨a, len, cap, m, n, V, D, Pl, rfl, hb, hl, hm, hmm, -, hx⟩
  · exact ⟨none, [], 0, rfl, fun i p h => by simp at h, by simp, by simp, fun _ => rfl⟩
  · have hle : len ≤ m := by rw [hmm]; split <;> omega
    have hT : ∀ i, i < len → ∃ p : Int, W.cell? (a.add i) = some (.int .i64 p) := by
      intro i hi
      obtain ⟨h1, h2⟩ := hx i (by omega)
      obtain ⟨k, e0, -⟩ := DataW.trod_int Tryz.underlying3 h2
      simp only [List.cons.injEq, and_true] at e0
      exact ⟨k, by rw [h1, e0]⟩
    obtain ⟨F, hF⟩ := choose_lt hT
    refine ⟨some a, (List.range len).map F, cap, by simp, ?_, ?_, by simpa using hl, fun h => by cases h⟩
    · intro i p hi
      rw [List.getElem?_map, Option.map_eq_some_iff] at hi
      obtain ⟨j, hj, rfl⟩ := hi
      obtain ⟨hlt, rfl⟩ : i < len ∧ i = j := by simpa using List.getElem?_eq_some_iff.1 hj
      exact ⟨a, rfl, hF i hlt⟩
    · have : maxLen = 9223372036854775807 := rfl
      simp
      omega
def IntsOk (W : World) (o : Option Addr) (L : List Int) (c : Nat) : Prop := IntsAt W o L ∧ L.length ≤ 9223372036854775807 ∧ L.length ≤ c ∧ (o = none → c = 0)
def TapsOk (W : World) (o : Option Addr) (L : List TP) (c : Nat) : Prop := TapsAt W o L ∧ L.length ≤ 9223372036854775807 ∧ L.length ≤ c ∧ (o = none → c = 0)
theorem den_of {W : World} {base fuel : Nat} {sp : Nat → Bool} {hd : Bool} {cs : List Value} {x : DataW H × List MemPlace} (hsz : cs.length = 2) (h : DataW.trod enc Tryz.prog W base sp hd fuel 28 cs = some x) :
    ∃ (v : Int) (o : Option Addr) (L : List Int) (c : Nat), cs = [.int .i64 v, .slice o L.length c] ∧ IntsOk W o L c := by
  match cs, hsz with
  | [d0, d1], _ =>
  obtain ⟨xs, n, _, hx, hl, hlen, hfs⟩ := DataW.trod_struct Tryz.underlying28 h
  match xs, hlen with
  | [y0, y1], _ =>
  have g0 := hfs 0 _ rfl
  have g1 := hfs 1 _ rfl
  simp [cells3', cells41] at g0 g1
  obtain ⟨k, e0, -⟩ := DataW.trod_int Tryz.underlying3 g0
  obtain ⟨o, L, c, e1, t1, t2, t3, t4⟩ := ints_ofV g1
  simp only [List.cons.injEq, and_true] at e0 e1
  subst e0 e1
  exact ⟨_, _, _, _, rfl, t1, t2, t3, t4⟩
abbrev gtV (i z s : Int) (oa : Option Addr) (na ca : Nat) (v : Int) (od : Option Addr) (nd cd : Nat) (l u : Int) : Value := .agg #[.int .i64 i, .int .i64 z, .int .i64 s, .slice oa na ca, .int .i64 v, .slice od nd cd, .int .i64 l, .int .i64 u]
end
end Go.Proofs.YtcjfmbeemdcklaaGreat

/-
  Blocks that a call has made, and that stay as they were made.
-/
namespace Go.Proofs.YtcjfmbeemdcklaaGreat
open Go.RowKit
def Blks (w w1 : World) (os : List Obj) : Prop :=
  (∀ i o, os[i]? = some o → w1.heap[w.heap.size + i]? = some o) ∧ w.heap.size + os.length ≤ w1.heap.size ∧ Below w.heap.size w w1
theorem Blks.nil (w : World) : Blks w w [] := ⟨fun i o h => by simp at h, by simp, Below.refl _ _⟩
theorem Blks.on {w w1 w2 : World} {os : List Obj} (h : Blks w w1 os) (hb : Below w1.heap.size w1 w2) : Blks w w2 os := by
  refine ⟨fun i o hi => ?_, Nat.le_trans h.2.1 hb.size, h.2.2.trans (hb.mono h.2.2.size)⟩
  have h1 := h.1 i o hi
  have hlt : w.heap.size + i < w1.heap.size := by
    have := (List.getElem?_eq_some_iff.1 hi).1
    have := h.2.1
    omega
  rw [hb.block _ hlt]
  exact h1
theorem Blks.more {w w1 : World} {os : List Obj} (h : Blks w w1 os) (o : Obj) (he : w1.heap.size = w.heap.size + os.length) : Blks w (w1.alloc o) (os ++ [o]) := by
  refine ⟨fun i x hi => ?_, by simp; omega, h.2.2.alloc h.2.2.size _⟩
  rcases Nat.lt_or_ge i os.length with hlt | hge
  · rw [List.getElem?_append_left hlt] at hi
    have h1 := h.1 i x hi
    rw [((Below.refl w1.heap.size w1).alloc (Nat.le_refl _) o).block _ (by omega)]
    exact h1
  · rw [List.getElem?_append_right hge] at hi
    have h0 : i - os.length = 0 := by
      have := (List.getElem?_eq_some_iff.1 hi).1
      simp at this
      omega
    rw [h0] at hi
    simp at hi
    subst hi
    rw [show w.heap.size + i = w1.heap.size by omega]
    exact heap_alloc_new w1 o
theorem Blks.cell {w w1 : World} {os : List Obj} (h : Blks w w1 os) (i j b : Nat) (vs : Array Value) (T : TypeId) (v : Value) (hi : os[i]? = some (.cells vs T)) (hb : b = w.heap.size + i) (hj : vs[j]? = some v) :
    w1.cell? ⟨b, j, none⟩ = some v := by
  subst hb
  rw [cell_of_row _ _ j _ _ _ (h.1 i _ hi)]
  exact hj
theorem Blks.frozen {w w1 : World} {os : List Obj} (h : Blks w w1 os) (i j b : Nat) (vs : Array Value) (T : TypeId) (hi : os[i]? = some (.cells vs T)) (hb : b = w.heap.size + i) :
    w1.frozen? ⟨b, j, none⟩ = false := by
  subst hb
  exact frozen_of_row _ _ j _ _ (h.1 i _ hi)
theorem Blks.keep {w w1 w2 : World} {os : List Obj} (h : Blks w w1 os) (hb : Below (w.heap.size + os.length) w1 w2) : Blks w w2 os := by
  refine ⟨fun i o hi => ?_, Nat.le_trans h.2.1 hb.size, h.2.2.trans (hb.mono (Nat.le_add_right _ _))⟩
  have hlt := (List.getElem?_eq_some_iff.1 hi).1
  rw [hb.block _ (by omega)]
  exact h.1 i o hi
theorem Blks.set {w w1 : World} {os : List Obj} (h : Blks w w1 os) (p : Addr) (hp : w.heap.size + os.length ≤ p.block) (u : Value) : Blks w (w1.setCell p u) os :=
  h.keep (Below.setCell (Below.refl _ _) hp u)
theorem Blks.sub {w w1 : World} {os more : List Obj} (h : Blks w w1 (os ++ more)) : Blks w w1 os :=
  ⟨fun i o hi => h.1 i o (by rw [List.getElem?_append_left (List.getElem?_eq_some_iff.1 hi).1]; exact hi), by have := h.2.1; rw [List.length_append] at this; omega, h.2.2⟩
theorem Blks.lt {w w1 : World} {os : List Obj} (h : Blks w w1 os) (i b : Nat) (hi : i < os.length) (hb : b = w.heap.size + i) : b < w1.heap.size := by
  have := h.2.1
  omega
theorem Blks.put {w w1 : World} {os : List Obj} (h : Blks w w1 os) (i j b : Nat) (vs : Array Value) (T : TypeId) (u : Value) (hi : os[i]? = some (.cells vs T)) (hb : b = w.heap.size + i) :
    Blks w (w1.setCell ⟨b, j, none⟩ u) (os.set i (.cells (vs.setIfInBounds j u) T)) := by
  subst hb
  refine ⟨fun n o hn => ?_, by rw [List.length_set, World.size_setCell]; exact h.2.1, h.2.2.setCell (p := ⟨w.heap.size + i, j, none⟩) (by simp) u⟩
  rw [List.getElem?_set] at hn
  by_cases hin : i = n
  · subst hin
    have hlt := (List.getElem?_eq_some_iff.1 hi).1
    rw [if_pos rfl, if_pos hlt] at hn
    cases hn
    exact heap_setCell_same w1 _ j vs T u (h.1 i _ hi)
  · rw [if_neg hin] at hn
    rw [heap_setCell_other w1 _ _ _ (by simp; omega)]
    exact h.1 n o hn
theorem Blks.c2 {w w1 : World} {os : List Obj} (h : Blks w w1 os) (i b : Nat) {vs : Array Value} {T : TypeId} {v0 v1 : Value} (hi : os[i]? = some (.cells vs T)) (hb : b = w.heap.size + i) (h0 : vs[0]? = some v0) (h1 : vs[1]? = some v1) : w1.cell? ⟨b, 0, none⟩ = some v0 ∧ w1.cell? ⟨b, 1, none⟩ = some v1 :=
  ⟨h.cell i 0 b vs T v0 hi hb h0, h.cell i 1 b vs T v1 hi hb h1⟩
theorem Blks.c3 {w w1 : World} {os : List Obj} (h : Blks w w1 os) (i b : Nat) {vs : Array Value} {T : TypeId} {v0 v1 v2 : Value} (hi : os[i]? = some (.cells vs T)) (hb : b = w.heap.size + i) (h0 : vs[0]? = some v0) (h1 : vs[1]? = some v1) (h2 : vs[2]? = some v2) : w1.cell? ⟨b, 0, none⟩ = some v0 ∧ w1.cell? ⟨b, 1, none⟩ = some v1 ∧ w1.cell? ⟨b, 2, none⟩ = some v2 :=
  ⟨h.cell i 0 b vs T v0 hi hb h0, h.cell i 1 b vs T v1 hi hb h1, h.cell i 2 b vs T v2 hi hb h2⟩
theorem Blks.c4 {w w1 : World} {os : List Obj} (h : Blks w w1 os) (i b : Nat) {vs : Array Value} {T : TypeId} {v0 v1 v2 v3 : Value} (hi : os[i]? = some (.cells vs T)) (hb : b = w.heap.size + i) (h0 : vs[0]? = some v0) (h1 : vs[1]? = some v1) (h2 : vs[2]? = some v2) (h3 : vs[3]? = some v3) : w1.cell? ⟨b, 0, none⟩ = some v0 ∧ w1.cell? ⟨b, 1, none⟩ = some v1 ∧ w1.cell? ⟨b, 2, none⟩ = some v2 ∧ w1.cell? ⟨b, 3, none⟩ = some v3 :=
  ⟨h.cell i 0 b vs T v0 hi hb h0, h.cell i 1 b vs T v1 hi hb h1, h.cell i 2 b vs T v2 hi hb h2, h.cell i 3 b vs T v3 hi hb h3⟩
theorem Blks.c5 {w w1 : World} {os : List Obj} (h : Blks w w1 os) (i b : Nat) {vs : Array Value} {T : TypeId} {v0 v1 v2 v3 v4 : Value} (hi : os[i]? = some (.cells vs T)) (hb : b = w.heap.size + i) (h0 : vs[0]? = some v0) (h1 : vs[1]? = some v1) (h2 : vs[2]? = some v2) (h3 : vs[3]? = some v3) (h4 : vs[4]? = some v4) : w1.cell? ⟨b, 0, none⟩ = some v0 ∧ w1.cell? ⟨b, 1, none⟩ = some v1 ∧ w1.cell? ⟨b, 2, none⟩ = some v2 ∧ w1.cell? ⟨b, 3, none⟩ = some v3 ∧ w1.cell? ⟨b, 4, none⟩ = some v4 :=
  ⟨h.cell i 0 b vs T v0 hi hb h0, h.cell i 1 b vs T v1 hi hb h1, h.cell i 2 b vs T v2 hi hb h2, h.cell i 3 b vs T v3 hi hb h3, h.cell i 4 b vs T v4 hi hb h4⟩
theorem Blks.c6 {w w1 : World} {os : List Obj} (h : Blks w w1 os) (i b : Nat) {vs : Array Value} {T : TypeId} {v0 v1 v2 v3 v4 v5 : Value} (hi : os[i]? = some (.cells vs T)) (hb : b = w.heap.size + i) (h0 : vs[0]? = some v0) (h1 : vs[1]? = some v1) (h2 : vs[2]? = some v2) (h3 : vs[3]? = some v3) (h4 : vs[4]? = some v4) (h5 : vs[5]? = some v5) : w1.cell? ⟨b, 0, none⟩ = some v0 ∧ w1.cell? ⟨b, 1, none⟩ = some v1 ∧ w1.cell? ⟨b, 2, none⟩ = some v2 ∧ w1.cell? ⟨b, 3, none⟩ = some v3 ∧ w1.cell? ⟨b, 4, none⟩ = some v4 ∧ w1.cell? ⟨b, 5, none⟩ = some v5 :=
  ⟨h.cell i 0 b vs T v0 hi hb h0, h.cell i 1 b vs T v1 hi hb h1, h.cell i 2 b vs T v2 hi hb h2, h.cell i 3 b vs T v3 hi hb h3, h.cell i 4 b vs T v4 hi hb h4, h.cell i 5 b vs T v5 hi hb h5⟩
theorem Blks.c7 {w w1 : World} {os : List Obj} (h : Blks w w1 os) (i b : Nat) {vs : Array Value} {T : TypeId} {v0 v1 v2 v3 v4 v5 v6 : Value} (hi : os[i]? = some (.cells vs T)) (hb : b = w.heap.size + i) (h0 : vs[0]? = some v0) (h1 : vs[1]? = some v1) (h2 : vs[2]? = some v2) (h3 : vs[3]? = some v3) (h4 : vs[4]? = some v4) (h5 : vs[5]? = some v5) (h6 : vs[6]? = some v6) : w1.cell? ⟨b, 0, none⟩ = some v0 ∧ w1.cell? ⟨b, 1, none⟩ = some v1 ∧ w1.cell? ⟨b, 2, none⟩ = some v2 ∧ w1.cell? ⟨b, 3, none⟩ = some v3 ∧ w1.cell? ⟨b, 4, none⟩ = some v4 ∧ w1.cell? ⟨b, 5, none⟩ = some v5 ∧ w1.cell? ⟨b, 6, none⟩ = some v6 :=
  ⟨h.cell i 0 b vs T v0 hi hb h0, h.cell i 1 b vs T v1 hi hb h1, h.cell i 2 b vs T v2 hi hb h2, h.cell i 3 b vs T v3 hi hb h3, h.cell i 4 b vs T v4 hi hb h4, h.cell i 5 b vs T v5 hi hb h5, h.cell i 6 b vs T v6 hi hb h6⟩
theorem Blks.c8 {w w1 : World} {os : List Obj} (h : Blks w w1 os) (i b : Nat) {vs : Array Value} {T : TypeId} {v0 v1 v2 v3 v4 v5 v6 v7 : Value} (hi : os[i]? = some (.cells vs T)) (hb : b = w.heap.size + i) (h0 : vs[0]? = some v0) (h1 : vs[1]? = some v1) (h2 : vs[2]? = some v2) (h3 : vs[3]? = some v3) (h4 : vs[4]? = some v4) (h5 : vs[5]? = some v5) (h6 : vs[6]? = some v6) (h7 : vs[7]? = some v7) : w1.cell? ⟨b, 0, none⟩ = some v0 ∧ w1.cell? ⟨b, 1, none⟩ = some v1 ∧ w1.cell? ⟨b, 2, none⟩ = some v2 ∧ w1.cell? ⟨b, 3, none⟩ = some v3 ∧ w1.cell? ⟨b, 4, none⟩ = some v4 ∧ w1.cell? ⟨b, 5, none⟩ = some v5 ∧ w1.cell? ⟨b, 6, none⟩ = some v6 ∧ w1.cell? ⟨b, 7, none⟩ = some v7 :=
  ⟨h.cell i 0 b vs T v0 hi hb h0, h.cell i 1 b vs T v1 hi hb h1, h.cell i 2 b vs T v2 hi hb h2, h.cell i 3 b vs T v3 hi hb h3, h.cell i 4 b vs T v4 hi hb h4, h.cell i 5 b vs T v5 hi hb h5, h.cell i 6 b vs T v6 hi hb h6, h.cell i 7 b vs T v7 hi hb h7⟩
theorem row_c7 {w : World} {b : Nat} {T : TypeId} {v0 v1 v2 v3 v4 v5 v6 : Value} (h : w.heap[b]? = some (.cells #[v0, v1, v2, v3, v4, v5, v6] T (0, 0))) : w.cell? ⟨b, 0, none⟩ = some v0 ∧ w.cell? ⟨b, 1, none⟩ = some v1 ∧ w.cell? ⟨b, 2, none⟩ = some v2 ∧ w.cell? ⟨b, 3, none⟩ = some v3 ∧ w.cell? ⟨b, 4, none⟩ = some v4 ∧ w.cell? ⟨b, 5, none⟩ = some v5 ∧ w.cell? ⟨b, 6, none⟩ = some v6 := by
  refine ⟨?_, ?_, ?_, ?_, ?_, ?_, ?_⟩
  · rw [cell_of_row _ _ 0 _ _ _ h]; rfl
  · rw [cell_of_row _ _ 1 _ _ _ h]; rfl
  · rw [cell_of_row _ _ 2 _ _ _ h]; rfl
  · rw [cell_of_row _ _ 3 _ _ _ h]; rfl
  · rw [cell_of_row _ _ 4 _ _ _ h]; rfl
  · rw [cell_of_row _ _ 5 _ _ _ h]; rfl
  · rw [cell_of_row _ _ 6 _ _ _ h]; rfl
theorem row_c8 {w : World} {b : Nat} {T : TypeId} {v0 v1 v2 v3 v4 v5 v6 v7 : Value} (h : w.heap[b]? = some (.cells #[v0, v1, v2, v3, v4, v5, v6, v7] T (0, 0))) : w.cell? ⟨b, 0, none⟩ = some v0 ∧ w.cell? ⟨b, 1, none⟩ = some v1 ∧ w.cell? ⟨b, 2, none⟩ = some v2 ∧ w.cell? ⟨b, 3, none⟩ = some v3 ∧ w.cell? ⟨b, 4, none⟩ = some v4 ∧ w.cell? ⟨b, 5, none⟩ = some v5 ∧ w.cell? ⟨b, 6, none⟩ = some v6 ∧ w.cell? ⟨b, 7, none⟩ = some v7 := by
  refine ⟨?_, ?_, ?_, ?_, ?_, ?_, ?_, ?_⟩
  · rw [cell_of_row _ _ 0 _ _ _ h]; rfl
  · rw [cell_of_row _ _ 1 _ _ _ h]; rfl
  · rw [cell_of_row _ _ 2 _ _ _ h]; rfl
  · rw [cell_of_row _ _ 3 _ _ _ h]; rfl
  · rw [cell_of_row _ _ 4 _ _ _ h]; rfl
  · rw [cell_of_row _ _ 5 _ _ _ h]; rfl
  · rw [cell_of_row _ _ 6 _ _ _ h]; rfl
  · rw [cell_of_row _ _ 7 _ _ _ h]; rfl
theorem Blks.z2 {w w1 : World} {os : List Obj} (h : Blks w w1 os) (i b : Nat) {vs : Array Value} {T : TypeId} (hi : os[i]? = some (.cells vs T)) (hb : b = w.heap.size + i) : w1.frozen? ⟨b, 0, none⟩ = false ∧ w1.frozen? ⟨b, 1, none⟩ = false :=
  ⟨h.frozen i 0 b vs T hi hb, h.frozen i 1 b vs T hi hb⟩
theorem Blks.z3 {w w1 : World} {os : List Obj} (h : Blks w w1 os) (i b : Nat) {vs : Array Value} {T : TypeId} (hi : os[i]? = some (.cells vs T)) (hb : b = w.heap.size + i) : w1.frozen? ⟨b, 0, none⟩ = false ∧ w1.frozen? ⟨b, 1, none⟩ = false ∧ w1.frozen? ⟨b, 2, none⟩ = false :=
  ⟨h.frozen i 0 b vs T hi hb, h.frozen i 1 b vs T hi hb, h.frozen i 2 b vs T hi hb⟩
theorem Blks.z5 {w w1 : World} {os : List Obj} (h : Blks w w1 os) (i b : Nat) {vs : Array Value} {T : TypeId} (hi : os[i]? = some (.cells vs T)) (hb : b = w.heap.size + i) : w1.frozen? ⟨b, 0, none⟩ = false ∧ w1.frozen? ⟨b, 1, none⟩ = false ∧ w1.frozen? ⟨b, 2, none⟩ = false ∧ w1.frozen? ⟨b, 3, none⟩ = false ∧ w1.frozen? ⟨b, 4, none⟩ = false :=
  ⟨h.frozen i 0 b vs T hi hb, h.frozen i 1 b vs T hi hb, h.frozen i 2 b vs T hi hb, h.frozen i 3 b vs T hi hb, h.frozen i 4 b vs T hi hb⟩
theorem Blks.z7 {w w1 : World} {os : List Obj} (h : Blks w w1 os) (i b : Nat) {vs : Array Value} {T : TypeId} (hi : os[i]? = some (.cells vs T)) (hb : b = w.heap.size + i) : w1.frozen? ⟨b, 0, none⟩ = false ∧ w1.frozen? ⟨b, 1, none⟩ = false ∧ w1.frozen? ⟨b, 2, none⟩ = false ∧ w1.frozen? ⟨b, 3, none⟩ = false ∧ w1.frozen? ⟨b, 4, none⟩ = false ∧ w1.frozen? ⟨b, 5, none⟩ = false ∧ w1.frozen? ⟨b, 6, none⟩ = false :=
  ⟨h.frozen i 0 b vs T hi hb, h.frozen i 1 b vs T hi hb, h.frozen i 2 b vs T hi hb, h.frozen i 3 b vs T hi hb, h.frozen i 4 b vs T hi hb, h.frozen i 5 b vs T hi hb, h.frozen i 6 b vs T hi hb⟩
theorem Blks.z8 {w w1 : World} {os : List Obj} (h : Blks w w1 os) (i b : Nat) {vs : Array Value} {T : TypeId} (hi : os[i]? = some (.cells vs T)) (hb : b = w.heap.size + i) : w1.frozen? ⟨b, 0, none⟩ = false ∧ w1.frozen? ⟨b, 1, none⟩ = false ∧ w1.frozen? ⟨b, 2, none⟩ = false ∧ w1.frozen? ⟨b, 3, none⟩ = false ∧ w1.frozen? ⟨b, 4, none⟩ = false ∧ w1.frozen? ⟨b, 5, none⟩ = false ∧ w1.frozen? ⟨b, 6, none⟩ = false ∧ w1.frozen? ⟨b, 7, none⟩ = false :=
  ⟨h.frozen i 0 b vs T hi hb, h.frozen i 1 b vs T hi hb, h.frozen i 2 b vs T hi hb, h.frozen i 3 b vs T hi hb, h.frozen i 4 b vs T hi hb, h.frozen i 5 b vs T hi hb, h.frozen i 6 b vs T hi hb, h.frozen i 7 b vs T hi hb⟩
end Go.Proofs.YtcjfmbeemdcklaaGreat

/-
  What is wrong with a list of what is denied: 'isId', 'checkIds', 'check' (package denied).
-/
namespace Go.Proofs.YtcjfmbeemdcklaaGreat
open Go.RowKit
abbrev dn (v : Int) (o : Option Addr) (n c : Nat) : Value := .agg #[.int .i64 v, .slice o n c]
theorem isId_any (n : Int) (w : World) :
    Calls Tryz.prog 127 #[.int .i64 n] w fun e w' => e = .returned (.bool (wi n 1 9999)) ∧ w' = w := by
  go_enter Tryz.func127, Tryz.ntmps127
  go_wp2_with (go_at_call 137; refine (within_any _ _ _ _).mono ?_; rintro e w' ⟨rfl, rfl⟩)
  go_ret
  exact ⟨rfl, rfl⟩
def errD : Int → List Int → Int
  | _, [] => 0
  | l, x :: r => if wi x 1 9999 = false then 3 else if x ≤ l then 4 else errD x r
theorem errD_ways (l x : Int) (r : List Int) : (wi x 1 9999 = false ∧ errD l (x :: r) = 3) ∨ (wi x 1 9999 = true ∧ x ≤ l ∧ errD l (x :: r) = 4) ∨ (wi x 1 9999 = true ∧ ¬ x ≤ l ∧ errD l (x :: r) = errD x r) := by
  rw [errD]
  cases wi x 1 9999
  · simp
  · by_cases h : x ≤ l <;> simp [h]
theorem drop_cons {α : Type} {L : List α} {q : Nat} {x : α} (h : L[q]? = some x) : L.drop q = x :: L.drop (q + 1) := by
  obtain ⟨h1, h2⟩ := List.getElem?_eq_some_iff.1 h
  rw [List.drop_eq_getElem_cons h1, h2]
set_option maxHeartbeats 1600000 in
theorem checkIds_any (v : Int) (L : List Int) (o : Option Addr) (c : Nat) (w : World) (hL : IntsAt w o L) (hlen : L.length ≤ 12) :
    Calls Tryz.prog 173 #[dn v o L.length c] w fun e w' => e = .returned (.int .i64 (errD 0 L)) ∧ Below w.heap.size w w' := by
  have HL := hide (hL.below ((Below.refl w.heap.size w).alloc (Nat.le_refl _) (.cells #[.int .i64 v, .slice o L.length c] 118)))
  have HB := hide ((Below.refl w.heap.size w).alloc (Nat.le_refl _) (.cells #[.int .i64 v, .slice o L.length c] 118))
  clear hL
  go_enter Tryz.func173, Tryz.ntmps173
  go_wp2_with fail
  generalize w.alloc (.cells #[.int .i64 v, .slice o L.length c] 118) = wa at *
  go_loopw [3, 10] (fun l j wr => ∃ (q : Nat) (x : Int), q ≤ L.length ∧ j = .int .i64 q ∧ l = .int .i64 x ∧ Hid (errD 0 L = errD x (L.drop q)) ∧ wr = wa) (fun _ j _ => L.length - (intOf j).toNat)
  case atStart => exact ⟨0, 0, Nat.zero_le _, rfl, rfl, by show _ = _; simp, rfl⟩
  case round =>
    obtain ⟨q, l, hq, rfl, rfl, hE, hw⟩ := hrel
    subst hw
    by_cases hgo : q < L.length
    · obtain ⟨x, hx⟩ : ∃ x, L[q]? = some x := ⟨L[q], by simp [hgo]⟩
      obtain ⟨A, rfl, c0⟩ := HL.out q x hx
      have hE' := hE.out
      rw [drop_cons hx] at hE'
      have hp := errD_ways l x (L.drop (q + 1))
      rw [← hE'] at hp
      clear hE hE' hx
      rcases hp with ⟨h1, h3⟩ | ⟨h1, h2, h3⟩ | ⟨h1, h2, h3⟩
      all_goals
        have H3 := hide h3
        clear h3
      · go_wp2_with (go_at_call 127; refine (isId_any _ _).mono ?_; rintro e w' ⟨rfl, rfl⟩; rw [h1])
        go_ret
        exact ⟨by rw [H3.out]; rfl, HB.out⟩
      · go_wp2_with (go_at_call 127; refine (isId_any _ _).mono ?_; rintro e w' ⟨rfl, rfl⟩; rw [h1])
        go_ret
        exact ⟨by rw [H3.out]; rfl, HB.out⟩
      · go_wp2_with (go_at_call 127; refine (isId_any _ _).mono ?_; rintro e w' ⟨rfl, rfl⟩; rw [h1])
        exact ⟨⟨q + 1, x, by omega, by simp, rfl, H3, by first | rfl | trivial⟩, by simp [intOf]; omega⟩
    · have hE' := hE.out
      rw [List.drop_of_length_le (by omega)] at hE'
      have HE := hide hE'
      clear hE hE'
      go_wp2_with fail
      go_ret
      exact ⟨by rw [HE.out]; rfl, HB.out⟩
def chkD (v : Int) (L : List Int) : Int := if wi v 0 999 = false then 3 else if 12 < L.length then 2 else if errD 0 L = 0 then (if v < L.length then 4 else 0) else errD 0 L
theorem chkD_ways (v : Int) (L : List Int) : (wi v 0 999 = false ∧ chkD v L = 3) ∨ (wi v 0 999 = true ∧ 12 < L.length ∧ chkD v L = 2) ∨ (wi v 0 999 = true ∧ ¬ 12 < L.length ∧ errD 0 L ≠ 0 ∧ chkD v L = errD 0 L) ∨
    (wi v 0 999 = true ∧ ¬ 12 < L.length ∧ errD 0 L = 0 ∧ v < L.length ∧ chkD v L = 4) ∨ (wi v 0 999 = true ∧ ¬ 12 < L.length ∧ errD 0 L = 0 ∧ ¬ v < L.length ∧ chkD v L = 0) := by
  unfold chkD
  cases wi v 0 999
  · simp
  · by_cases h1 : 12 < L.length
    · simp [h1]
    · by_cases h2 : errD 0 L = 0
      · by_cases h3 : v < L.length <;> simp [h1, h2, h3]
      · simp [h1, h2]
set_option maxHeartbeats 1600000 in
theorem checkD_any (v : Int) (L : List Int) (o : Option Addr) (c : Nat) (w : World) (hL : IntsAt w o L) (hlen : L.length ≤ 9223372036854775807) :
    Calls Tryz.prog 145 #[dn v o L.length c] w fun e w' => e = .returned (.int .i64 (chkD v L)) ∧ Below w.heap.size w w' := by
  have HI := hide (fun W (h : IntsAt W o L) (h' : ¬ 12 < L.length) => checkIds_any v L o c W h (by omega))
  have hBa := (Blks.nil w).more (.cells #[.int .i64 v, .slice o L.length c] 118) (by simp)
  have HL := hide hL
  clear hL
  rcases chkD_ways v L with ⟨h1, h4⟩ | ⟨h1, h2, h4⟩ | ⟨h1, h2, h3, h4⟩ | ⟨h1, h2, h3, h5, h4⟩ | ⟨h1, h2, h3, h5, h4⟩
  all_goals
    rw [h4]
    clear h4
    have HBa := hide hBa
    clear hBa
    go_enter Tryz.func145, Tryz.ntmps145
    go_wp2_with (go_at_call 137; refine (within_any _ _ _ _).mono ?_; rintro e w' ⟨rfl, rfl⟩; rw [h1])
  · go_ret
    exact ⟨rfl, HBa.out.2.2⟩
  · go_ret
    exact ⟨rfl, HBa.out.2.2⟩
  all_goals
    refine (HI.out _ (HL.out.below HBa.out.2.2) h2).mono ?_
    rintro e w1 ⟨rfl, hb⟩
    have HB1 := hide (HBa.out.on hb)
    obtain ⟨c0, c1⟩ := HB1.out.c2 0 w.heap.size rfl rfl rfl rfl
    clear hb HBa
  · have h3' : (errD 0 L != 0) = true := by simpa using h3
    clear h3
    go_wp2_with fail
    go_ret
    exact ⟨rfl, HB1.out.2.2⟩
  all_goals
    rw [h3]
    clear h3
    go_wp2_with fail
    go_ret
    exact ⟨rfl, HB1.out.2.2⟩
end Go.Proofs.YtcjfmbeemdcklaaGreat

/-
  'wrong', 'Check', 'unfit' (package denied): lists that are looked at one by one.
-/
namespace Go.Proofs.YtcjfmbeemdcklaaGreat
open Go.RowKit
structure DD where
  v : Int
  L : List Int
  o : Option Addr
  c : Nat
def DensAt (w : World) (B : Addr) (Ds : List DD) : Prop := ∀ (q : Nat) (d : DD), Ds[q]? = some d →
  w.cell? (B.add (q * 2)) = some (.int .i64 d.v) ∧ w.cell? ⟨(B.add (q * 2)).block, (B.add (q * 2)).off + 1, none⟩ = some (.slice d.o d.L.length d.c) ∧ IntsAt w d.o d.L ∧ d.L.length ≤ 9223372036854775807
theorem DensAt.below {w w' : World} {B : Addr} {Ds : List DD} (h : DensAt w B Ds) (hb : Below w.heap.size w w') : DensAt w' B Ds :=
  fun q d hq => have ⟨h1, h2, h3, h4⟩ := h q d hq; ⟨by rw [hb.cell (World.block_lt_of_cell? w _ h1)]; exact h1, by rw [hb.cell (World.block_lt_of_cell? w _ h2)]; exact h2, h3.below hb, h4⟩
def wrongE : List DD → Int
  | [] => 0
  | d :: r => if chkD d.v d.L = 0 then wrongE r else chkD d.v d.L
theorem wrongE_ways (d : DD) (r : List DD) : ((chkD d.v d.L != 0) = true ∧ wrongE (d :: r) = chkD d.v d.L) ∨ (chkD d.v d.L = 0 ∧ wrongE (d :: r) = wrongE r) := by
  rw [wrongE]
  by_cases h : chkD d.v d.L = 0
  · right; simp [h]
  · left; simp [h]
set_option maxHeartbeats 1600000 in
theorem denWrong_any (Ds : List DD) (B : Addr) (c : Nat) (w : World) (hD : DensAt w B Ds) (hlen : Ds.length ≤ 12) :
    Calls Tryz.prog 94 #[.slice (some B) Ds.length c] w fun e w' => e = .returned (.int .i64 (wrongE Ds)) ∧ Below w.heap.size w w' := by
  have HD := hide hD
  clear hD
  go_enter Tryz.func94, Tryz.ntmps94
  go_wp2_with fail
  go_loopw [8] (fun j wr => ∃ (q : Nat), q ≤ Ds.length ∧ j = .int .i64 q ∧ Hid (wrongE Ds = wrongE (Ds.drop q)) ∧ Hid (Below w.heap.size w wr)) (fun j _ => Ds.length - (intOf j).toNat)
  case atStart => exact ⟨0, Nat.zero_le _, rfl, by show _ = _; simp, Below.refl _ _⟩
  case round =>
    obtain ⟨q, hq, rfl, hE, HB⟩ := hrel
    by_cases hgo : q < Ds.length
    · obtain ⟨d, hd⟩ : ∃ d, Ds[q]? = some d := ⟨Ds[q], by simp [hgo]⟩
      obtain ⟨c0, c1, h2, h3⟩ := HD.out.below HB.out q d hd
      have HI := hide h2
      clear h2
      have hE' := hE.out
      rw [drop_cons hd] at hE'
      have hp := wrongE_ways d (Ds.drop (q + 1))
      rw [← hE'] at hp
      clear hE hE' hd
      go_wp2_with fail
      have hBa := HB.out.alloc HB.out.size (.cells #[.int .i64 d.v, .slice d.o d.L.length d.c] 28)
      refine (checkD_any d.v d.L d.o d.c _ (HI.out.below ((Below.refl wr.heap.size wr).alloc (Nat.le_refl _) _)) h3).mono ?_
      rintro e w1 ⟨rfl, hb⟩
      have HB1 := hide (hBa.trans (hb.mono hBa.size))
      clear hBa hb c0 c1 HI
      rcases hp with ⟨h5, h6⟩ | ⟨h5, h6⟩
      · have H6 := hide h6
        clear h6
        generalize chkD d.v d.L = E at *
        go_wp2_with fail
        go_ret
        exact ⟨by rw [H6.out]; rfl, HB1.out⟩
      · have H6 := hide h6
        clear h6
        rw [h5]
        clear h5
        go_wp2_with fail
        exact ⟨⟨q + 1, by omega, by simp, H6, HB1⟩, by simp [intOf]; omega⟩
    · have hE' := hE.out
      rw [List.drop_of_length_le (by omega)] at hE'
      have H6 := hide hE'
      clear hE hE'
      go_wp2_with fail
      go_ret
      exact ⟨by rw [H6.out]; rfl, HB.out⟩
theorem densAt_one (w : World) (v : Int) (L : List Int) (o : Option Addr) (c b : Nat) (T : TypeId) (hb : w.heap[b]? = some (.cells #[.int .i64 v, .slice o L.length c] T)) (hL : IntsAt w o L) (hl : L.length ≤ 9223372036854775807) :
    DensAt w ⟨b, 0, none⟩ [⟨v, L, o, c⟩] := by
  intro q d hq
  match q, hq with
  | 0, hq =>
    simp at hq
    subst hq
    have c0 := cell_of_row w b 0 _ _ _ hb
    have c1 := cell_of_row w b 1 _ _ _ hb
    simp at c0 c1
    exact ⟨by simpa [Addr.add] using c0, by simpa [Addr.add] using c1, hL, hl⟩
  | q + 1, hq => simp at hq
theorem densAt_two (w : World) (v v' : Int) (L L' : List Int) (o o' : Option Addr) (c c' b : Nat) (T : TypeId) (hb : w.heap[b]? = some (.cells #[.int .i64 v, .slice o L.length c, .int .i64 v', .slice o' L'.length c'] T)) (hL : IntsAt w o L) (hl : L.length ≤ 9223372036854775807)
    (hL' : IntsAt w o' L') (hl' : L'.length ≤ 9223372036854775807) : DensAt w ⟨b, 0, none⟩ [⟨v, L, o, c⟩, ⟨v', L', o', c'⟩] := by
  intro q d hq
  have c0 := cell_of_row w b 0 _ _ _ hb
  have c1 := cell_of_row w b 1 _ _ _ hb
  have c2 := cell_of_row w b 2 _ _ _ hb
  have c3 := cell_of_row w b 3 _ _ _ hb
  simp at c0 c1 c2 c3
  match q, hq with
  | 0, hq =>
    simp at hq
    subst hq
    exact ⟨by simpa [Addr.add] using c0, by simpa [Addr.add] using c1, hL, hl⟩
  | 1, hq =>
    simp at hq
    subst hq
    exact ⟨by simpa [Addr.add] using c2, by simpa [Addr.add] using c3, hL', hl'⟩
  | q + 2, hq => simp at hq
theorem wrongE_one (d : DD) : wrongE [d] = chkD d.v d.L := by
  simp only [wrongE]
  split
  · rename_i h; exact h.symm
  · rfl
theorem denWrong1_any (v : Int) (L : List Int) (o : Option Addr) (c b : Nat) (T : TypeId) (w : World) (hb : w.heap[b]? = some (.cells #[.int .i64 v, .slice o L.length c] T)) (hL : IntsAt w o L) (hlen : L.length ≤ 9223372036854775807) :
    Calls Tryz.prog 94 #[.slice (some ⟨b, 0, none⟩) 1 1] w fun e w' => e = .returned (.int .i64 (chkD v L)) ∧ Below w.heap.size w w' := by
  have h := denWrong_any [⟨v, L, o, c⟩] ⟨b, 0, none⟩ 1 w (densAt_one w v L o c b T hb hL hlen) (by simp)
  rw [wrongE_one] at h
  exact h
theorem denCheck_any (v : Int) (L : List Int) (o : Option Addr) (c : Nat) (w : World) (hL : IntsAt w o L) (hlen : L.length ≤ 9223372036854775807) :
    Calls Tryz.prog 40 #[dn v o L.length c] w fun e w' => e = .returned (.int .i64 (chkD v L)) ∧ Below w.heap.size w w' := by
  have HB := hide (((Blks.nil w).more (.cells #[.int .i64 v, .slice o L.length c] 28) (by simp)).more (.cells #[.int .i64 v, .slice o L.length c] 28) (by simp))
  have HL := hide hL
  clear hL
  go_enter Tryz.func40, Tryz.ntmps40
  go_wp2_with fail
  refine (denWrong1_any v L o c _ _ _ (HB.out.1 1 _ rfl) (HL.out.below HB.out.2.2) hlen).mono ?_
  rintro e w1 ⟨rfl, hb⟩
  have HB1 := hide (HB.out.on hb)
  clear hb HB
  go_wp2_with fail
  go_ret
  exact ⟨rfl, HB1.out.2.2⟩
def unfD (v : Int) (L : List Int) (id : Int) : Int := if chkD v L = 0 then (if wi id 1 9999 = true then 0 else 3) else chkD v L
theorem unfD_ways (v : Int) (L : List Int) (id : Int) : ((chkD v L != 0) = true ∧ unfD v L id = chkD v L) ∨ (chkD v L = 0 ∧ wi id 1 9999 = false ∧ unfD v L id = 3) ∨ (chkD v L = 0 ∧ wi id 1 9999 = true ∧ unfD v L id = 0) := by
  rw [unfD]
  by_cases h : chkD v L = 0
  · right
    cases wi id 1 9999 <;> simp [h]
  · left; simp [h]
set_option maxHeartbeats 1600000 in
theorem denUnfit_any (v : Int) (L : List Int) (o : Option Addr) (c : Nat) (id : Int) (w : World) (hL : IntsAt w o L) (hlen : L.length ≤ 9223372036854775807) :
    Calls Tryz.prog 74 #[dn v o L.length c, .int .i64 id] w fun e w' => e = .returned (.int .i64 (unfD v L id)) ∧ Below w.heap.size w w' := by
  have HB := hide (((Blks.nil w).more (.cells #[.int .i64 v, .slice o L.length c] 28) (by simp)).more (.cells #[.int .i64 v, .slice o L.length c] 28) (by simp))
  have HL := hide hL
  clear hL
  have hp := unfD_ways v L id
  go_enter Tryz.func74, Tryz.ntmps74
  go_wp2_with fail
  refine (denWrong1_any v L o c _ _ _ (HB.out.1 1 _ rfl) (HL.out.below HB.out.2.2) hlen).mono ?_
  rintro e w1 ⟨rfl, hb⟩
  have HB1 := hide (HB.out.on hb)
  clear hb HB
  rcases hp with ⟨h1, h2⟩ | ⟨h1, h2, h3⟩ | ⟨h1, h2, h3⟩
  · have H2 := hide h2
    clear h2
    generalize chkD v L = E at *
    go_wp2_with fail
    go_ret
    exact ⟨by rw [H2.out]; rfl, HB1.out.2.2⟩
  all_goals
    have H3 := hide h3
    rw [h1]
    clear h1 h3
    go_wp2_with (go_at_call 127; refine (isId_any _ _).mono ?_; rintro e w' ⟨rfl, rfl⟩; rw [h2])
    go_ret
    exact ⟨by rw [H3.out]; rfl, HB1.out.2.2⟩
end Go.Proofs.YtcjfmbeemdcklaaGreat

/-
  Ids that are looked for: 'IndexFunc', 'first', 'has', 'full', 'Has' (package denied), 'HasInt' (the document's answer).
-/
namespace Go.Proofs.YtcjfmbeemdcklaaGreat
open Go.RowKit
def hasI (L : List Int) (id : Int) : Bool := L.any fun x => x == id
theorem has1_any (x id : Int) (B : Nat) (w : World) (hc : w.cell? ⟨B, 0, none⟩ = some (.int .i64 id)) :
    Calls Tryz.prog 129 #[.int .i64 x, .pointer (some ⟨B, 0, none⟩)] w fun e w' => e = .returned (.bool (x == id)) ∧ w' = w := by
  go_enter Tryz.func129, Tryz.ntmps129
  go_wp2
  go_ret
  exact ⟨rfl, rfl⟩
theorem with1_any (x id : Int) (B : Nat) (w : World) (hc : w.cell? ⟨B, 0, none⟩ = some (.int .i64 id)) :
    Calls Tryz.prog 161 #[.int .i64 x, .pointer (some ⟨B, 0, none⟩)] w fun e w' => e = .returned (.bool (decide (id < x))) ∧ w' = w := by
  go_enter Tryz.func161, Tryz.ntmps161
  go_wp2
  go_ret
  exact ⟨rfl, rfl⟩
def idxF (L : List Int) (g : Int → Bool) : Int := if L.findIdx g < L.length then (L.findIdx g : Int) else -1
theorem findIdx_at {L : List Int} {g : Int → Bool} {q : Nat} {x : Int} (h : ∀ j y, j < q → L[j]? = some y → g y = false) (hx : L[q]? = some x) (hg : g x = true) : L.findIdx g = q := by
  obtain ⟨hlt, hx'⟩ := List.getElem?_eq_some_iff.1 hx
  rw [List.findIdx_eq hlt]
  refine ⟨by rw [hx']; exact hg, fun j hj => ?_⟩
  exact h j _ hj (by simp)
theorem findIdx_none {L : List Int} {g : Int → Bool} (h : ∀ j y, j < L.length → L[j]? = some y → g y = false) : L.findIdx g = L.length := by
  rw [List.findIdx_eq_length]
  intro x hx
  obtain ⟨j, hj⟩ := List.mem_iff_getElem?.1 hx
  exact h j x (List.getElem?_eq_some_iff.1 hj).1 hj
set_option maxHeartbeats 1600000 in
theorem indexDH_any (B : Nat) (id : Int) (L : List Int) (o : Option Addr) (cap : Nat) (w : World) (hL : IntsAt w o L) (hlen : L.length ≤ 9223372036854775807) (hc : w.cell? ⟨B, 0, none⟩ = some (.int .i64 id)) :
    Calls Tryz.prog 163 #[.slice o L.length cap, .func (.func 129) #[] #[.pointer (some ⟨B, 0, none⟩)]] w fun e w' => e = .returned (.int .i64 (idxF L (fun x : Int => x == id))) ∧ w' = w := by
  have HL := hide hL
  have HF := hide (fun (x : Int) (W : World) h => has1_any x id B W h)
  clear hL
  go_enter Tryz.func163, Tryz.ntmps163
  go_wp2_with fail
  go_loopw [8] (fun j wr => ∃ (q : Nat), q ≤ L.length ∧ j = .int .i64 q ∧ Hid (∀ j y, j < q → L[j]? = some y → (fun x : Int => x == id) y = false) ∧ wr = w) (fun j _ => L.length - (intOf j).toNat)
  case atStart => exact ⟨0, Nat.zero_le _, rfl, fun j y h => by omega, rfl⟩
  case round =>
    obtain ⟨q, hq, rfl, hE, hw⟩ := hrel
    subst hw
    by_cases hgo : q < L.length
    · obtain ⟨x, hx⟩ : ∃ x, L[q]? = some x := ⟨L[q], by simp [hgo]⟩
      obtain ⟨A, rfl, c0⟩ := HL.out q x hx
      have HX := hide hx
      clear hx
      go_wp2_with fail
      refine (HF.out x _ hc).mono ?_
      rintro e w1 ⟨rfl, rfl⟩
      cases hg : (fun x : Int => x == id) x
      · have HN : Hid (∀ j y, j < q + 1 → L[j]? = some y → (fun x : Int => x == id) y = false) := fun j y hj hy => by
          rcases Nat.lt_or_ge j q with h | h
          · exact hE.out j y h hy
          · obtain rfl : j = q := by omega
            rw [HX.out] at hy
            cases hy
            exact hg
        go_wp2_with fail
        exact ⟨⟨q + 1, by omega, by simp, HN, by first | rfl | trivial⟩, by simp [intOf]; omega⟩
      · have HR : Hid (idxF L (fun x : Int => x == id) = q) := by
          show _ = _
          have h := findIdx_at hE.out HX.out hg
          rw [idxF, h, if_pos hgo]
        go_wp2_with fail
        go_ret
        exact ⟨by rw [HR.out]; rfl, rfl⟩
    · have HR : Hid (idxF L (fun x : Int => x == id) = -1) := by
        show _ = _
        have h := findIdx_none (L := L) (g := fun x : Int => x == id) (fun j y hj hy => hE.out j y (by omega) hy)
        rw [idxF, h, if_neg (by omega)]
      go_wp2_with fail
      go_ret
      exact ⟨by rw [HR.out]; rfl, rfl⟩
set_option maxHeartbeats 1600000 in
theorem firstH_any (B : Nat) (id v : Int) (L : List Int) (o : Option Addr) (cap : Nat) (w : World) (hL : IntsAt w o L) (hlen : L.length ≤ 9223372036854775807) (hc : w.cell? ⟨B, 0, none⟩ = some (.int .i64 id)) :
    Calls Tryz.prog 128 #[dn v o L.length cap, .func (.func 129) #[] #[.pointer (some ⟨B, 0, none⟩)]] w fun e w' => e = .returned (.int .i64 (L.findIdx (fun x : Int => x == id) : Int)) ∧ Below w.heap.size w w' := by
  have HB := hide ((Blks.nil w).more (.cells #[.int .i64 v, .slice o L.length cap] 118) (by simp))
  have HI := hide (fun W (h1 : IntsAt W o L) (h2 : W.cell? ⟨B, 0, none⟩ = some (.int .i64 id)) => indexDH_any B id L o cap W h1 hlen h2)
  have HL := hide (hL.below HB.out.2.2)
  have HC := hide (show (w.alloc (.cells #[.int .i64 v, .slice o L.length cap] 118)).cell? ⟨B, 0, none⟩ = some (.int .i64 id) by rw [HB.out.2.2.cell (World.block_lt_of_cell? w _ hc)]; exact hc)
  have hp : (L.findIdx (fun x : Int => x == id) < L.length ∧ idxF L (fun x : Int => x == id) = (L.findIdx (fun x : Int => x == id) : Int)) ∨ (L.findIdx (fun x : Int => x == id) = L.length ∧ idxF L (fun x : Int => x == id) = -1) := by
    have := List.findIdx_le_length (xs := L) (p := fun x : Int => x == id)
    rw [idxF]
    by_cases h : L.findIdx (fun x : Int => x == id) < L.length
    · left; simp [h]
    · right; exact ⟨by omega, by rw [if_neg h]⟩
  clear hL hc
  generalize L.findIdx (fun x : Int => x == id) = n at hp ⊢
  go_enter Tryz.func128, Tryz.ntmps128
  go_wp2_with fail
  refine (HI.out _ HL.out HC.out).mono ?_
  rintro e w1 ⟨rfl, rfl⟩
  rcases hp with ⟨h1, h2⟩ | ⟨h1, h2⟩
  · rw [h2]
    clear h2
    go_wp2_with fail
    go_ret
    exact ⟨rfl, HB.out.2.2⟩
  · rw [h2]
    clear h2
    subst h1
    go_wp2_with fail
    go_ret
    exact ⟨rfl, HB.out.2.2⟩
set_option maxHeartbeats 1600000 in
theorem indexDW_any (B : Nat) (id : Int) (L : List Int) (o : Option Addr) (cap : Nat) (w : World) (hL : IntsAt w o L) (hlen : L.length ≤ 9223372036854775807) (hc : w.cell? ⟨B, 0, none⟩ = some (.int .i64 id)) :
    Calls Tryz.prog 163 #[.slice o L.length cap, .func (.func 161) #[] #[.pointer (some ⟨B, 0, none⟩)]] w fun e w' => e = .returned (.int .i64 (idxF L (fun x : Int => decide (id < x)))) ∧ w' = w := by
  have HL := hide hL
  have HF := hide (fun (x : Int) (W : World) h => with1_any x id B W h)
  clear hL
  go_enter Tryz.func163, Tryz.ntmps163
  go_wp2_with fail
  go_loopw [8] (fun j wr => ∃ (q : Nat), q ≤ L.length ∧ j = .int .i64 q ∧ Hid (∀ j y, j < q → L[j]? = some y → (fun x : Int => decide (id < x)) y = false) ∧ wr = w) (fun j _ => L.length - (intOf j).toNat)
  case atStart => exact ⟨0, Nat.zero_le _, rfl, fun j y h => by omega, rfl⟩
  case round =>
    obtain ⟨q, hq, rfl, hE, hw⟩ := hrel
    subst hw
    by_cases hgo : q < L.length
    · obtain ⟨x, hx⟩ : ∃ x, L[q]? = some x := ⟨L[q], by simp [hgo]⟩
      obtain ⟨A, rfl, c0⟩ := HL.out q x hx
      have HX := hide hx
      clear hx
      go_wp2_with fail
      refine (HF.out x _ hc).mono ?_
      rintro e w1 ⟨rfl, rfl⟩
      cases hg : (fun x : Int => decide (id < x)) x
      · have HN : Hid (∀ j y, j < q + 1 → L[j]? = some y → (fun x : Int => decide (id < x)) y = false) := fun j y hj hy => by
          rcases Nat.lt_or_ge j q with h | h
          · exact hE.out j y h hy
          · obtain rfl : j = q := by omega
            rw [HX.out] at hy
            cases hy
            exact hg
        go_wp2_with fail
        exact ⟨⟨q + 1, by omega, by simp, HN, by first | rfl | trivial⟩, by simp [intOf]; omega⟩
      · have HR : Hid (idxF L (fun x : Int => decide (id < x)) = q) := by
          show _ = _
          have h := findIdx_at hE.out HX.out hg
          rw [idxF, h, if_pos hgo]
        go_wp2_with fail
        go_ret
        exact ⟨by rw [HR.out]; rfl, rfl⟩
    · have HR : Hid (idxF L (fun x : Int => decide (id < x)) = -1) := by
        show _ = _
        have h := findIdx_none (L := L) (g := fun x : Int => decide (id < x)) (fun j y hj hy => hE.out j y (by omega) hy)
        rw [idxF, h, if_neg (by omega)]
      go_wp2_with fail
      go_ret
      exact ⟨by rw [HR.out]; rfl, rfl⟩
set_option maxHeartbeats 1600000 in
theorem firstW_any (B : Nat) (id v : Int) (L : List Int) (o : Option Addr) (cap : Nat) (w : World) (hL : IntsAt w o L) (hlen : L.length ≤ 9223372036854775807) (hc : w.cell? ⟨B, 0, none⟩ = some (.int .i64 id)) :
    Calls Tryz.prog 128 #[dn v o L.length cap, .func (.func 161) #[] #[.pointer (some ⟨B, 0, none⟩)]] w fun e w' => e = .returned (.int .i64 (L.findIdx (fun x : Int => decide (id < x)) : Int)) ∧ Below w.heap.size w w' := by
  have HB := hide ((Blks.nil w).more (.cells #[.int .i64 v, .slice o L.length cap] 118) (by simp))
  have HI := hide (fun W (h1 : IntsAt W o L) (h2 : W.cell? ⟨B, 0, none⟩ = some (.int .i64 id)) => indexDW_any B id L o cap W h1 hlen h2)
  have HL := hide (hL.below HB.out.2.2)
  have HC := hide (show (w.alloc (.cells #[.int .i64 v, .slice o L.length cap] 118)).cell? ⟨B, 0, none⟩ = some (.int .i64 id) by rw [HB.out.2.2.cell (World.block_lt_of_cell? w _ hc)]; exact hc)
  have hp : (L.findIdx (fun x : Int => decide (id < x)) < L.length ∧ idxF L (fun x : Int => decide (id < x)) = (L.findIdx (fun x : Int => decide (id < x)) : Int)) ∨ (L.findIdx (fun x : Int => decide (id < x)) = L.length ∧ idxF L (fun x : Int => decide (id < x)) = -1) := by
    have := List.findIdx_le_length (xs := L) (p := fun x : Int => decide (id < x))
    rw [idxF]
    by_cases h : L.findIdx (fun x : Int => decide (id < x)) < L.length
    · left; simp [h]
    · right; exact ⟨by omega, by rw [if_neg h]⟩
  clear hL hc
  generalize L.findIdx (fun x : Int => decide (id < x)) = n at hp ⊢
  go_enter Tryz.func128, Tryz.ntmps128
  go_wp2_with fail
  refine (HI.out _ HL.out HC.out).mono ?_
  rintro e w1 ⟨rfl, rfl⟩
  rcases hp with ⟨h1, h2⟩ | ⟨h1, h2⟩
  · rw [h2]
    clear h2
    go_wp2_with fail
    go_ret
    exact ⟨rfl, HB.out.2.2⟩
  · rw [h2]
    clear h2
    subst h1
    go_wp2_with fail
    go_ret
    exact ⟨rfl, HB.out.2.2⟩
theorem hasI_idx (L : List Int) (id : Int) : decide ((L.findIdx fun x => x == id) < L.length) = hasI L id := by
  rw [hasI]
  cases h : L.any fun x => x == id
  · rw [List.any_eq_false] at h
    rw [(List.findIdx_eq_length).2 (fun x hx => by simpa using h x hx)]
    simp
  · rw [List.any_eq_true] at h
    obtain ⟨x, hx, he⟩ := h
    simpa using List.findIdx_lt_length_of_exists (xs := L) (p := fun x => x == id) ⟨x, hx, he⟩
set_option maxHeartbeats 1600000 in
theorem denHas_any (v id : Int) (L : List Int) (o : Option Addr) (cap : Nat) (w : World) (hL : IntsAt w o L) (hlen : L.length ≤ 9223372036854775807) :
    Calls Tryz.prog 75 #[dn v o L.length cap, .int .i64 id] w fun e w' => e = .returned (.bool (hasI L id)) ∧ Below w.heap.size w w' := by
  have HB := hide (((Blks.nil w).more (.cells #[.int .i64 v, .slice o L.length cap] 118) (by simp)).more (.cells #[.int .i64 id] 3) (by simp))
  have HI := hide (fun W (h1 : IntsAt W o L) (h2 : W.cell? ⟨w.heap.size + 1, 0, none⟩ = some (.int .i64 id)) => firstH_any (w.heap.size + 1) id v L o cap W h1 hlen h2)
  have HL := hide (hL.below HB.out.2.2)
  have HR := hide (hasI_idx L id)
  clear hL
  go_enter Tryz.func75, Tryz.ntmps75
  go_wp2_with fail
  refine (HI.out _ HL.out (HB.out.cell 1 0 _ _ _ _ rfl rfl rfl)).mono ?_
  rintro e w1 ⟨rfl, hb⟩
  have HB1 := hide (HB.out.on hb)
  obtain ⟨c0, c1⟩ := HB1.out.c2 0 w.heap.size rfl rfl rfl rfl
  clear hb HB
  generalize (L.findIdx fun x => x == id) = n at *
  go_wp2_with fail
  go_ret
  refine ⟨?_, HB1.out.2.2⟩
  rw [← HR.out]
  simp
end Go.Proofs.YtcjfmbeemdcklaaGreat

/-
  'slices.Clone' of taps, tickets and integers.
-/
namespace Go.Proofs.YtcjfmbeemdcklaaGreat
open Go.RowKit
def Fresh (B : Nat) (v : Value) : Prop := ∀ k, v.ownBlock = some k → B ≤ k
set_option maxHeartbeats 1600000 in
theorem cloneP_any (L : List TP) (o : Option Addr) (cap : Nat) (w : World) (hL : TapsAt w o L) (hlen : L.length ≤ 60) :
    Calls Tryz.prog 118 #[.slice o L.length cap] w fun e w' => (∃ v, e = .returned v ∧ TapsV w' v L ∧ Fresh w.heap.size v) ∧ Below w.heap.size w w' := by
  obtain ⟨i0, hi, hz0, hz1, hz2⟩ := info_parts info32
  have q : ∀ (w : World) (a : Option Addr) (n c n' c' : Nat), (binOp .eql 23 (.slice a n c) (.slice none n' c')).run Tryz.prog w = .ok (.bool a.isNone) w := fun w a n c n' c' => Lib.run_eql_slice_nil w _ _ a n c n' c' Tryz.underlying23
  cases o with
  | none =>
    have hL0 : L = [] := by
      cases L with
      | nil => rfl
      | cons x L => obtain ⟨b, hb, -⟩ := hL 0 x rfl; cases hb
    subst hL0
    go_enter Tryz.func118, Tryz.ntmps118
    go_wp2
    go_ret
    exact ⟨⟨_, rfl, ⟨none, 0, rfl, fun i p hi => by simp at hi, by simp, fun _ => rfl⟩, fun k hk => by simp [Value.ownBlock] at hk⟩, Below.refl _ _⟩
  | some A =>
    have HN := hide (taps_cells (hL.below ((Below.refl w.heap.size w).alloc (Nat.le_refl _) (.cells #[] 58))))
    have HO := hide (World.ownsRow_made (base := w.heap.size) (e := 58) (size := 5) w #[] 0 (Nat.le_refl _) (by decide) rfl)
    clear hL
    go_enter Tryz.func118, Tryz.ntmps118
    go_wp2_with (at_builtin; refine wpList_append_own _ rfl _ _ 23 rfl w.heap.size 58 i0 _ 5 40 Tryz.underlying23 hi hz0 hz1 hz2 rfl (by decide) _ 0 _ rfl HO.out A L.length cap (cellsP L) rfl (cellsP_len L) HN.out (oneP L) (by unfold maxLen; omega) (by omega) (by simp) ?_; intro v1 w1 hown1 hgrow1 _)
    go_ret
    exact ⟨⟨_, rfl, tapsV_own hown1, fun k hk => (hown1.lt k hk).1⟩, ((Below.refl w.heap.size w).alloc (Nat.le_refl _) _).grown hgrow1 (by simp) (fun k hk => (HO.out.lt k hk).1)⟩
set_option maxHeartbeats 1600000 in
theorem cloneK_any (L : List TK) (o : Option Addr) (cap : Nat) (w : World) (hL : TiksAt w o L) (hlen : L.length ≤ 60) :
    Calls Tryz.prog 122 #[.slice o L.length cap] w fun e w' => (∃ v, e = .returned v ∧ TiksV w' v L ∧ Fresh w.heap.size v) ∧ Below w.heap.size w w' := by
  obtain ⟨i0, hi, hz0, hz1, hz2⟩ := info_parts info23
  have q : ∀ (w : World) (a : Option Addr) (n c n' c' : Nat), (binOp .eql 22 (.slice a n c) (.slice none n' c')).run Tryz.prog w = .ok (.bool a.isNone) w := fun w a n c n' c' => Lib.run_eql_slice_nil w _ _ a n c n' c' Tryz.underlying22
  cases o with
  | none =>
    have hL0 : L = [] := by
      cases L with
      | nil => rfl
      | cons x L => obtain ⟨b, hb, -⟩ := hL 0 x rfl; cases hb
    subst hL0
    go_enter Tryz.func122, Tryz.ntmps122
    go_wp2
    go_ret
    exact ⟨⟨_, rfl, ⟨none, 0, rfl, fun i p hi => by simp at hi, by simp, fun _ => rfl⟩, fun k hk => by simp [Value.ownBlock] at hk⟩, Below.refl _ _⟩
  | some A =>
    have HN := hide (tiks_cells (hL.below ((Below.refl w.heap.size w).alloc (Nat.le_refl _) (.cells #[] 34))))
    have HO := hide (World.ownsRow_made (base := w.heap.size) (e := 34) (size := 6) w #[] 0 (Nat.le_refl _) (by decide) rfl)
    clear hL
    go_enter Tryz.func122, Tryz.ntmps122
    go_wp2_with (at_builtin; refine wpList_append_own _ rfl _ _ 22 rfl w.heap.size 34 i0 _ 6 48 Tryz.underlying22 hi hz0 hz1 hz2 rfl (by decide) _ 0 _ rfl HO.out A L.length cap (cellsK L) rfl (cellsK_len L) HN.out (oneK L) (by unfold maxLen; omega) (by omega) (by simp) ?_; intro v1 w1 hown1 hgrow1 _)
    go_ret
    exact ⟨⟨_, rfl, tiksV_own hown1, fun k hk => (hown1.lt k hk).1⟩, ((Below.refl w.heap.size w).alloc (Nat.le_refl _) _).grown hgrow1 (by simp) (fun k hk => (HO.out.lt k hk).1)⟩
set_option maxHeartbeats 1600000 in
theorem cloneV_any (L : List Int) (o : Option Addr) (cap : Nat) (w : World) (hL : IntsAt w o L) (hlen : L.length ≤ 60) :
    Calls Tryz.prog 126 #[.slice o L.length cap] w fun e w' => (∃ v, e = .returned v ∧ IntsV w' v L ∧ Fresh w.heap.size v) ∧ Below w.heap.size w w' := by
  obtain ⟨i0, hi, hz0, hz1, hz2⟩ := info_parts info3
  have q : ∀ (w : World) (a : Option Addr) (n c n' c' : Nat), (binOp .eql 24 (.slice a n c) (.slice none n' c')).run Tryz.prog w = .ok (.bool a.isNone) w := fun w a n c n' c' => Lib.run_eql_slice_nil w _ _ a n c n' c' Tryz.underlying24
  cases o with
  | none =>
    have hL0 : L = [] := by
      cases L with
      | nil => rfl
      | cons x L => obtain ⟨b, hb, -⟩ := hL 0 x rfl; cases hb
    subst hL0
    go_enter Tryz.func126, Tryz.ntmps126
    go_wp2
    go_ret
    exact ⟨⟨_, rfl, ⟨none, 0, rfl, fun i p hi => by simp at hi, by simp, fun _ => rfl⟩, fun k hk => by simp [Value.ownBlock] at hk⟩, Below.refl _ _⟩
  | some A =>
    have HN := hide (ints_cells (hL.below ((Below.refl w.heap.size w).alloc (Nat.le_refl _) (.cells #[] 3))))
    have HO := hide (World.ownsRow_made (base := w.heap.size) (e := 3) (size := 1) w #[] 0 (Nat.le_refl _) (by decide) rfl)
    clear hL
    go_enter Tryz.func126, Tryz.ntmps126
    go_wp2_with (at_builtin; refine wpList_append_own _ rfl _ _ 24 rfl w.heap.size 3 i0 _ 1 8 Tryz.underlying24 hi hz0 hz1 hz2 rfl (by decide) _ 0 _ rfl HO.out A L.length cap (cellsV L) rfl (cellsV_len L) HN.out (oneV L) (by unfold maxLen; omega) (by omega) (by simp) ?_; intro v1 w1 hown1 hgrow1 _)
    go_ret
    exact ⟨⟨_, rfl, intsV_own hown1, fun k hk => (hown1.lt k hk).1⟩, ((Below.refl w.heap.size w).alloc (Nat.le_refl _) _).grown hgrow1 (by simp) (fun k hk => (HO.out.lt k hk).1)⟩
end Go.Proofs.YtcjfmbeemdcklaaGreat

/-
  'slices.Grow' from nil, of taps, tickets and integers.
-/
namespace Go.Proofs.YtcjfmbeemdcklaaGreat
open Go.RowKit
set_option maxHeartbeats 1600000 in
set_option maxRecDepth 100000 in
theorem growP_any (n : Nat) (w : World) (hn : n ≤ 100) :
    Calls Tryz.prog 160 #[.slice none 0 0, .int .i64 (n : Int)] w fun e w' => (∃ v, e = .returned v ∧ w'.ownsRow w.heap.size 58 5 v 0 []) ∧ Below w.heap.size w w' := by
  obtain ⟨i0, hi, hz0, hz1, hz2⟩ := info_parts info32
  by_cases h0 : 0 < n
  · have hr := Lib.run_append_nil_zeros (P := Tryz.prog) w 23 3 23 58 i0 _ .i64 .i64 Tryz.underlying23 Tryz.underlying3 hi hz0 n h0 (by omega) (by omega) (by rw [hz2]; omega)
    have hge := grownCap_ge w n 0 58
    have hmx : grownCap w n 0 58 ≤ maxLen := grownCap_le_maxLen w n 0 58 (by unfold maxLen; omega)
    generalize grownCap w n 0 58 = c at *
    have HO := hide (World.ownsRow_made (base := w.heap.size) (e := 58) (size := 5) w.drew (Builtin.zeroCells (Value.cells (.agg #[.int .i64 0, .int .i64 0, .int .i64 0, .int .i64 0, .int .i64 0])) n ++ Builtin.zeroCells (Value.cells (.agg #[.int .i64 0, .int .i64 0, .int .i64 0, .int .i64 0, .int .i64 0])) (c - n)) c (Nat.le_refl _) hmx (by
      rw [Array.size_append, size_zeroCells, size_zeroCells]
      simp only [Value.cells]
      simp
      omega))
    have HR := hide hr
    have hc0 : 0 ≤ c := Nat.zero_le _
    have hc1 : c ≤ 9223372036854775807 := hmx
    have h1 : ¬ ((n : Int) < 0) := by omega
    have h2 : (0 : Int) < (n : Int) := by omega
    clear hr hge hmx hz0 hz1 hz2 hi
    go_enter Tryz.func160, Tryz.ntmps160
    go_wp2_with (at_builtin; refine Lib.wpList_append_run _ rfl _ _ 23 3 rfl _ _ rfl rfl _ _ HR.out ?_)
    go_ret
    exact ⟨⟨_, rfl, HO.out⟩, (Below.refl w.heap.size w).drew.alloc (by simp) _⟩
  · obtain rfl : n = 0 := by omega
    go_enter Tryz.func160, Tryz.ntmps160
    go_wp2
    go_ret
    exact ⟨⟨_, rfl, World.ownsRow_nil _ _ _ _⟩, Below.refl _ _⟩
set_option maxHeartbeats 1600000 in
set_option maxRecDepth 100000 in
theorem growK_any (n : Nat) (w : World) (hn : n ≤ 100) :
    Calls Tryz.prog 176 #[.slice none 0 0, .int .i64 (n : Int)] w fun e w' => (∃ v, e = .returned v ∧ w'.ownsRow w.heap.size 34 6 v 0 []) ∧ Below w.heap.size w w' := by
  obtain ⟨i0, hi, hz0, hz1, hz2⟩ := info_parts info23
  by_cases h0 : 0 < n
  · have hr := Lib.run_append_nil_zeros (P := Tryz.prog) w 22 3 22 34 i0 _ .i64 .i64 Tryz.underlying22 Tryz.underlying3 hi hz0 n h0 (by omega) (by omega) (by rw [hz2]; omega)
    have hge := grownCap_ge w n 0 34
    have hmx : grownCap w n 0 34 ≤ maxLen := grownCap_le_maxLen w n 0 34 (by unfold maxLen; omega)
    generalize grownCap w n 0 34 = c at *
    have HO := hide (World.ownsRow_made (base := w.heap.size) (e := 34) (size := 6) w.drew (Builtin.zeroCells (Value.cells (.agg #[.int .i64 0, .int .i64 0, .int .i64 0, .int .i64 0, .int .i64 0, .int .i64 0])) n ++ Builtin.zeroCells (Value.cells (.agg #[.int .i64 0, .int .i64 0, .int .i64 0, .int .i64 0, .int .i64 0, .int .i64 0])) (c - n)) c (Nat.le_refl _) hmx (by
      rw [Array.size_append, size_zeroCells, size_zeroCells]
      simp only [Value.cells]
      simp
      omega))
    have HR := hide hr
    have hc0 : 0 ≤ c := Nat.zero_le _
    have hc1 : c ≤ 9223372036854775807 := hmx
    have h1 : ¬ ((n : Int) < 0) := by omega
    have h2 : (0 : Int) < (n : Int) := by omega
    clear hr hge hmx hz0 hz1 hz2 hi
    go_enter Tryz.func176, Tryz.ntmps176
    go_wp2_with (at_builtin; refine Lib.wpList_append_run _ rfl _ _ 22 3 rfl _ _ rfl rfl _ _ HR.out ?_)
    go_ret
    exact ⟨⟨_, rfl, HO.out⟩, (Below.refl w.heap.size w).drew.alloc (by simp) _⟩
  · obtain rfl : n = 0 := by omega
    go_enter Tryz.func176, Tryz.ntmps176
    go_wp2
    go_ret
    exact ⟨⟨_, rfl, World.ownsRow_nil _ _ _ _⟩, Below.refl _ _⟩
set_option maxHeartbeats 1600000 in
set_option maxRecDepth 100000 in
theorem growV_any (n : Nat) (w : World) (hn : n ≤ 100) :
    Calls Tryz.prog 188 #[.slice none 0 0, .int .i64 (n : Int)] w fun e w' => (∃ v, e = .returned v ∧ w'.ownsRow w.heap.size 3 1 v 0 []) ∧ Below w.heap.size w w' := by
  obtain ⟨i0, hi, hz0, hz1, hz2⟩ := info_parts info3
  by_cases h0 : 0 < n
  · have hr := Lib.run_append_nil_zeros (P := Tryz.prog) w 24 3 24 3 i0 _ .i64 .i64 Tryz.underlying24 Tryz.underlying3 hi hz0 n h0 (by omega) (by omega) (by rw [hz2]; omega)
    have hge := grownCap_ge w n 0 3
    have hmx : grownCap w n 0 3 ≤ maxLen := grownCap_le_maxLen w n 0 3 (by unfold maxLen; omega)
    generalize grownCap w n 0 3 = c at *
    have HO := hide (World.ownsRow_made (base := w.heap.size) (e := 3) (size := 1) w.drew (Builtin.zeroCells (Value.cells (.int .i64 0)) n ++ Builtin.zeroCells (Value.cells (.int .i64 0)) (c - n)) c (Nat.le_refl _) hmx (by
      rw [Array.size_append, size_zeroCells, size_zeroCells]
      simp only [Value.cells]
      simp
      omega))
    have HR := hide hr
    have hc0 : 0 ≤ c := Nat.zero_le _
    have hc1 : c ≤ 9223372036854775807 := hmx
    have h1 : ¬ ((n : Int) < 0) := by omega
    have h2 : (0 : Int) < (n : Int) := by omega
    clear hr hge hmx hz0 hz1 hz2 hi
    go_enter Tryz.func188, Tryz.ntmps188
    go_wp2_with (at_builtin; refine Lib.wpList_append_run _ rfl _ _ 24 3 rfl _ _ rfl rfl _ _ HR.out ?_)
    go_ret
    exact ⟨⟨_, rfl, HO.out⟩, (Below.refl w.heap.size w).drew.alloc (by simp) _⟩
  · obtain rfl : n = 0 := by omega
    go_enter Tryz.func188, Tryz.ntmps188
    go_wp2
    go_ret
    exact ⟨⟨_, rfl, World.ownsRow_nil _ _ _ _⟩, Below.refl _ _⟩
end Go.Proofs.YtcjfmbeemdcklaaGreat

/-
  'slices.Concat' of taps, tickets and integers.
-/
namespace Go.Proofs.YtcjfmbeemdcklaaGreat
open Go.RowKit
def lenS {α : Type} (Ps : List (Option Addr × List α × Nat)) : Nat := (Ps.flatMap fun x => x.2.1).length
theorem lenS_take {α : Type} (Ps : List (Option Addr × List α × Nat)) (q : Nat) (o : Option Addr) (L : List α) (cap : Nat) (h : Ps[q]? = some (o, L, cap)) : lenS (Ps.take (q + 1)) = lenS (Ps.take q) + L.length := by
  rw [lenS, lenS, List.take_add_one, h]
  simp
theorem flat_take {α : Type} (Ps : List (Option Addr × List α × Nat)) (q : Nat) (o : Option Addr) (L : List α) (cap : Nat) (h : Ps[q]? = some (o, L, cap)) :
    ((Ps.take (q + 1)).flatMap fun x => x.2.1) = ((Ps.take q).flatMap fun x => x.2.1) ++ L := by
  rw [List.take_add_one, h]
  simp
theorem lenS_le {α : Type} (Ps : List (Option Addr × List α × Nat)) (q : Nat) : lenS (Ps.take q) ≤ lenS Ps := by
  have : Ps = Ps.take q ++ Ps.drop q := (List.take_append_drop q Ps).symm
  conv => rhs; rw [this]
  unfold lenS
  rw [List.flatMap_append, List.length_append]
  omega
def PiecesP (w : World) (B : Addr) (Ps : List (Option Addr × List TP × Nat)) : Prop :=
  ∀ q o L cap, Ps[q]? = some (o, L, cap) → w.cell? (B.add q) = some (.slice o L.length cap) ∧ TapsAt w o L ∧ (o = none → cap = 0)
theorem PiecesP.below {w w' : World} {B : Addr} {Ps : List (Option Addr × List TP × Nat)} (h : PiecesP w B Ps) (hb : Below w.heap.size w w') : PiecesP w' B Ps :=
  fun q o L cap hq => have ⟨h1, h2, h3⟩ := h q o L cap hq; ⟨by rw [hb.cell (World.block_lt_of_cell? w _ h1)]; exact h1, h2.below hb, h3⟩
set_option maxHeartbeats 3200000 in
set_option maxRecDepth 100000 in
theorem concatP_any (Ps : List (Option Addr × List TP × Nat)) (B : Addr) (c : Nat) (w : World) (hP : PiecesP w B Ps) (hlen : Ps.length ≤ 3) (hsum : lenS Ps ≤ 100) :
    Calls Tryz.prog 121 #[.slice (some B) Ps.length c] w fun e w' => (∃ v, e = .returned v ∧ TapsV w' v (Ps.flatMap fun x => x.2.1) ∧ Fresh w.heap.size v) ∧ Below w.heap.size w w' := by
  obtain ⟨i0, hi, hz0, hz1, hz2⟩ := info_parts info32
  have HP := hide hP
  have HS := hide (fun q => lenS_le Ps q)
  clear hP
  go_enter Tryz.func121, Tryz.ntmps121
  go_wp2_with fail
  go_loopw [3, 11] (fun s j wr => ∃ (q : Nat), q ≤ Ps.length ∧ j = .int .i64 q ∧ s = .int .i64 (lenS (Ps.take q) : Int) ∧ wr = w) (fun _ j _ => Ps.length - (intOf j).toNat)
  case atStart => exact ⟨0, Nat.zero_le _, rfl, by simp [lenS], rfl⟩
  case round =>
    obtain ⟨q, hq, rfl, rfl, hw⟩ := hrel
    obtain rfl := hw.symm
    clear hw
    have hb1 := HS.out q
    by_cases hgo : q < Ps.length
    · obtain ⟨⟨o, L, cap⟩, hp⟩ : ∃ p, Ps[q]? = some p := ⟨Ps[q], by simp [hgo]⟩
      obtain ⟨c0, -, -⟩ := HP.out q o L cap hp
      have hb2 := HS.out (q + 1)
      have HL := hide (lenS_take Ps q o L cap hp)
      have hb3 : lenS (Ps.take q) + L.length ≤ 100 := by rw [← HL.out]; omega
      clear hp hb2
      generalize lenS (Ps.take q) = s at *
      go_wp2_with fail
      exact ⟨⟨q + 1, by omega, by simp, by rw [HL.out]; simp, by first | trivial | rfl⟩, by simp [intOf]; omega⟩
    · obtain rfl : q = Ps.length := by omega
      clear hgo
      generalize lenS (Ps.take Ps.length) = s at *
      have hs : s ≤ 100 := by omega
      go_wp2_with fail
      refine (growP_any s _ hs).mono ?_
      rintro e w1 ⟨⟨v, rfl, hown⟩, hbw⟩
      have HO := hide hown
      have HB := hide hbw
      have HP1 := hide (HP.out.below hbw)
      clear hown hbw
      go_wp2_with fail
      go_loopw [6, 27] (fun v j wr => ∃ (q : Nat), q ≤ Ps.length ∧ j = .int .i64 q ∧ wr.ownsRow w.heap.size 58 5 v (lenS (Ps.take q)) (cellsP ((Ps.take q).flatMap fun x => x.2.1)) ∧ Below w.heap.size w wr) (fun _ j _ => Ps.length - (intOf j).toNat)
      case atStart => exact ⟨0, Nat.zero_le _, rfl, HO.out, HB.out⟩
      case round =>
        obtain ⟨q, hq2, rfl, hown, hbr⟩ := hrel
        by_cases hgo : q < Ps.length
        · obtain ⟨⟨o, L, cap⟩, hp⟩ : ∃ p, Ps[q]? = some p := ⟨Ps[q], by simp [hgo]⟩
          obtain ⟨c0, hAt, hcap⟩ := (HP.out.below hbr) q o L cap hp
          have hb2 := HS.out (q + 1)
          have HL := hide (lenS_take Ps q o L cap hp)
          have hb3 : lenS (Ps.take q) + L.length ≤ 100 := by rw [← HL.out]; omega
          have HF := hide (flat_take Ps q o L cap hp)
          have hsz := hbr.size
          clear hp hb2
          generalize lenS (Ps.take q) = s2 at *
          generalize (Ps.take q).flatMap (fun x => x.2.1) = F at *
          cases o with
          | none =>
            have hL0 : L = [] := by
              cases L with
              | nil => rfl
              | cons x L => obtain ⟨b, hb, -⟩ := hAt 0 x rfl; cases hb
            have hc0 := hcap rfl
            subst hL0 hc0
            clear hAt hcap
            go_wp2_with (at_builtin; refine wpList_append_own_none rfl _ _ 23 rfl w.heap.size 58 i0 5 Tryz.underlying23 hi _ s2 _ rfl hown rfl ?_)
            exact ⟨⟨q + 1, by omega, by simp, by rw [HL.out, HF.out, List.append_nil]; exact hown, hbr⟩, by simp [intOf]; omega⟩
          | some A =>
            have HN := hide (taps_cells hAt)
            clear hAt hcap
            go_wp2_with (at_builtin; refine wpList_append_own _ rfl _ _ 23 rfl w.heap.size 58 i0 _ 5 40 Tryz.underlying23 hi hz0 hz1 hz2 rfl (by decide) _ s2 _ rfl hown A L.length cap (cellsP L) rfl (cellsP_len L) HN.out (oneP L) (by unfold maxLen; omega) (by omega) hsz ?_; intro v1 w2 hown1 hgrow1 _)
            exact ⟨⟨q + 1, by omega, by simp, by rw [HL.out, HF.out, cellsP_app]; exact hown1, hbr.grown hgrow1 hsz (fun k hk => (hown.lt k hk).1)⟩, by simp [intOf]; omega⟩
        · obtain rfl : q = Ps.length := by omega
          rw [List.take_length] at hown
          have HV := hide (And.intro (tapsV_own hown) (show Fresh w.heap.size _ from fun k hk => (hown.lt k hk).1))
          clear hown
          go_wp2_with fail
          go_ret
          exact ⟨⟨_, rfl, HV.out.1, HV.out.2⟩, hbr⟩
def PiecesK (w : World) (B : Addr) (Ps : List (Option Addr × List TK × Nat)) : Prop :=
  ∀ q o L cap, Ps[q]? = some (o, L, cap) → w.cell? (B.add q) = some (.slice o L.length cap) ∧ TiksAt w o L ∧ (o = none → cap = 0)
theorem PiecesK.below {w w' : World} {B : Addr} {Ps : List (Option Addr × List TK × Nat)} (h : PiecesK w B Ps) (hb : Below w.heap.size w w') : PiecesK w' B Ps :=
  fun q o L cap hq => have ⟨h1, h2, h3⟩ := h q o L cap hq; ⟨by rw [hb.cell (World.block_lt_of_cell? w _ h1)]; exact h1, h2.below hb, h3⟩
set_option maxHeartbeats 3200000 in
set_option maxRecDepth 100000 in
theorem concatK_any (Ps : List (Option Addr × List TK × Nat)) (B : Addr) (c : Nat) (w : World) (hP : PiecesK w B Ps) (hlen : Ps.length ≤ 3) (hsum : lenS Ps ≤ 100) :
    Calls Tryz.prog 150 #[.slice (some B) Ps.length c] w fun e w' => (∃ v, e = .returned v ∧ TiksV w' v (Ps.flatMap fun x => x.2.1) ∧ Fresh w.heap.size v) ∧ Below w.heap.size w w' := by
  obtain ⟨i0, hi, hz0, hz1, hz2⟩ := info_parts info23
  have HP := hide hP
  have HS := hide (fun q => lenS_le Ps q)
  clear hP
  go_enter Tryz.func150, Tryz.ntmps150
  go_wp2_with fail
  go_loopw [3, 11] (fun s j wr => ∃ (q : Nat), q ≤ Ps.length ∧ j = .int .i64 q ∧ s = .int .i64 (lenS (Ps.take q) : Int) ∧ wr = w) (fun _ j _ => Ps.length - (intOf j).toNat)
  case atStart => exact ⟨0, Nat.zero_le _, rfl, by simp [lenS], rfl⟩
  case round =>
    obtain ⟨q, hq, rfl, rfl, hw⟩ := hrel
    obtain rfl := hw.symm
    clear hw
    have hb1 := HS.out q
    by_cases hgo : q < Ps.length
    · obtain ⟨⟨o, L, cap⟩, hp⟩ : ∃ p, Ps[q]? = some p := ⟨Ps[q], by simp [hgo]⟩
      obtain ⟨c0, -, -⟩ := HP.out q o L cap hp
      have hb2 := HS.out (q + 1)
      have HL := hide (lenS_take Ps q o L cap hp)
      have hb3 : lenS (Ps.take q) + L.length ≤ 100 := by rw [← HL.out]; omega
      clear hp hb2
      generalize lenS (Ps.take q) = s at *
      go_wp2_with fail
      exact ⟨⟨q + 1, by omega, by simp, by rw [HL.out]; simp, by first | trivial | rfl⟩, by simp [intOf]; omega⟩
    · obtain rfl : q = Ps.length := by omega
      clear hgo
      generalize lenS (Ps.take Ps.length) = s at *
      have hs : s ≤ 100 := by omega
      go_wp2_with fail
      refine (growK_any s _ hs).mono ?_
      rintro e w1 ⟨⟨v, rfl, hown⟩, hbw⟩
      have HO := hide hown
      have HB := hide hbw
      have HP1 := hide (HP.out.below hbw)
      clear hown hbw
      go_wp2_with fail
      go_loopw [6, 27] (fun v j wr => ∃ (q : Nat), q ≤ Ps.length ∧ j = .int .i64 q ∧ wr.ownsRow w.heap.size 34 6 v (lenS (Ps.take q)) (cellsK ((Ps.take q).flatMap fun x => x.2.1)) ∧ Below w.heap.size w wr) (fun _ j _ => Ps.length - (intOf j).toNat)
      case atStart => exact ⟨0, Nat.zero_le _, rfl, HO.out, HB.out⟩
      case round =>
        obtain ⟨q, hq2, rfl, hown, hbr⟩ := hrel
        by_cases hgo : q < Ps.length
        · obtain ⟨⟨o, L, cap⟩, hp⟩ : ∃ p, Ps[q]? = some p := ⟨Ps[q], by simp [hgo]⟩
          obtain ⟨c0, hAt, hcap⟩ := (HP.out.below hbr) q o L cap hp
          have hb2 := HS.out (q + 1)
          have HL := hide (lenS_take Ps q o L cap hp)
          have hb3 : lenS (Ps.take q) + L.length ≤ 100 := by rw [← HL.out]; omega
          have HF := hide (flat_take Ps q o L cap hp)
          have hsz := hbr.size
          clear hp hb2
          generalize lenS (Ps.take q) = s2 at *
          generalize (Ps.take q).flatMap (fun x => x.2.1) = F at *
          cases o with
          | none =>
            have hL0 : L = [] := by
              cases L with
              | nil => rfl
              | cons x L => obtain ⟨b, hb, -⟩ := hAt 0 x rfl; cases hb
            have hc0 := hcap rfl
            subst hL0 hc0
            clear hAt hcap
            go_wp2_with (at_builtin; refine wpList_append_own_none rfl _ _ 22 rfl w.heap.size 34 i0 6 Tryz.underlying22 hi _ s2 _ rfl hown rfl ?_)
            exact ⟨⟨q + 1, by omega, by simp, by rw [HL.out, HF.out, List.append_nil]; exact hown, hbr⟩, by simp [intOf]; omega⟩
          | some A =>
            have HN := hide (tiks_cells hAt)
            clear hAt hcap
            go_wp2_with (at_builtin; refine wpList_append_own _ rfl _ _ 22 rfl w.heap.size 34 i0 _ 6 48 Tryz.underlying22 hi hz0 hz1 hz2 rfl (by decide) _ s2 _ rfl hown A L.length cap (cellsK L) rfl (cellsK_len L) HN.out (oneK L) (by unfold maxLen; omega) (by omega) hsz ?_; intro v1 w2 hown1 hgrow1 _)
            exact ⟨⟨q + 1, by omega, by simp, by rw [HL.out, HF.out, cellsK_app]; exact hown1, hbr.grown hgrow1 hsz (fun k hk => (hown.lt k hk).1)⟩, by simp [intOf]; omega⟩
        · obtain rfl : q = Ps.length := by omega
          rw [List.take_length] at hown
          have HV := hide (And.intro (tiksV_own hown) (show Fresh w.heap.size _ from fun k hk => (hown.lt k hk).1))
          clear hown
          go_wp2_with fail
          go_ret
          exact ⟨⟨_, rfl, HV.out.1, HV.out.2⟩, hbr⟩
def PiecesV (w : World) (B : Addr) (Ps : List (Option Addr × List Int × Nat)) : Prop :=
  ∀ q o L cap, Ps[q]? = some (o, L, cap) → w.cell? (B.add q) = some (.slice o L.length cap) ∧ IntsAt w o L ∧ (o = none → cap = 0)
theorem PiecesV.below {w w' : World} {B : Addr} {Ps : List (Option Addr × List Int × Nat)} (h : PiecesV w B Ps) (hb : Below w.heap.size w w') : PiecesV w' B Ps :=
  fun q o L cap hq => have ⟨h1, h2, h3⟩ := h q o L cap hq; ⟨by rw [hb.cell (World.block_lt_of_cell? w _ h1)]; exact h1, h2.below hb, h3⟩
set_option maxHeartbeats 3200000 in
set_option maxRecDepth 100000 in
theorem concatV_any (Ps : List (Option Addr × List Int × Nat)) (B : Addr) (c : Nat) (w : World) (hP : PiecesV w B Ps) (hlen : Ps.length ≤ 3) (hsum : lenS Ps ≤ 100) :
    Calls Tryz.prog 162 #[.slice (some B) Ps.length c] w fun e w' => (∃ v, e = .returned v ∧ IntsV w' v (Ps.flatMap fun x => x.2.1) ∧ Fresh w.heap.size v) ∧ Below w.heap.size w w' := by
  obtain ⟨i0, hi, hz0, hz1, hz2⟩ := info_parts info3
  have HP := hide hP
  have HS := hide (fun q => lenS_le Ps q)
  clear hP
  go_enter Tryz.func162, Tryz.ntmps162
  go_wp2_with fail
  go_loopw [3, 11] (fun s j wr => ∃ (q : Nat), q ≤ Ps.length ∧ j = .int .i64 q ∧ s = .int .i64 (lenS (Ps.take q) : Int) ∧ wr = w) (fun _ j _ => Ps.length - (intOf j).toNat)
  case atStart => exact ⟨0, Nat.zero_le _, rfl, by simp [lenS], rfl⟩
  case round =>
    obtain ⟨q, hq, rfl, rfl, hw⟩ := hrel
    obtain rfl := hw.symm
    clear hw
    have hb1 := HS.out q
    by_cases hgo : q < Ps.length
    · obtain ⟨⟨o, L, cap⟩, hp⟩ : ∃ p, Ps[q]? = some p := ⟨Ps[q], by simp [hgo]⟩
      obtain ⟨c0, -, -⟩ := HP.out q o L cap hp
      have hb2 := HS.out (q + 1)
      have HL := hide (lenS_take Ps q o L cap hp)
      have hb3 : lenS (Ps.take q) + L.length ≤ 100 := by rw [← HL.out]; omega
      clear hp hb2
      generalize lenS (Ps.take q) = s at *
      go_wp2_with fail
      exact ⟨⟨q + 1, by omega, by simp, by rw [HL.out]; simp, by first | trivial | rfl⟩, by simp [intOf]; omega⟩
    · obtain rfl : q = Ps.length := by omega
      clear hgo
      generalize lenS (Ps.take Ps.length) = s at *
      have hs : s ≤ 100 := by omega
      go_wp2_with fail
      refine (growV_any s _ hs).mono ?_
      rintro e w1 ⟨⟨v, rfl, hown⟩, hbw⟩
      have HO := hide hown
      have HB := hide hbw
      have HP1 := hide (HP.out.below hbw)
      clear hown hbw
      go_wp2_with fail
      go_loopw [6, 27] (fun v j wr => ∃ (q : Nat), q ≤ Ps.length ∧ j = .int .i64 q ∧ wr.ownsRow w.heap.size 3 1 v (lenS (Ps.take q)) (cellsV ((Ps.take q).flatMap fun x => x.2.1)) ∧ Below w.heap.size w wr) (fun _ j _ => Ps.length - (intOf j).toNat)
      case atStart => exact ⟨0, Nat.zero_le _, rfl, HO.out, HB.out⟩
      case round =>
        obtain ⟨q, hq2, rfl, hown, hbr⟩ := hrel
        by_cases hgo : q < Ps.length
        · obtain ⟨⟨o, L, cap⟩, hp⟩ : ∃ p, Ps[q]? = some p := ⟨Ps[q], by simp [hgo]⟩
          obtain ⟨c0, hAt, hcap⟩ := (HP.out.below hbr) q o L cap hp
          have hb2 := HS.out (q + 1)
          have HL := hide (lenS_take Ps q o L cap hp)
          have hb3 : lenS (Ps.take q) + L.length ≤ 100 := by rw [← HL.out]; omega
          have HF := hide (flat_take Ps q o L cap hp)
          have hsz := hbr.size
          clear hp hb2
          generalize lenS (Ps.take q) = s2 at *
          generalize (Ps.take q).flatMap (fun x => x.2.1) = F at *
          cases o with
          | none =>
            have hL0 : L = [] := by
              cases L with
              | nil => rfl
              | cons x L => obtain ⟨b, hb, -⟩ := hAt 0 x rfl; cases hb
            have hc0 := hcap rfl
            subst hL0 hc0
            clear hAt hcap
            go_wp2_with (at_builtin; refine wpList_append_own_none rfl _ _ 24 rfl w.heap.size 3 i0 1 Tryz.underlying24 hi _ s2 _ rfl hown rfl ?_)
            exact ⟨⟨q + 1, by omega, by simp, by rw [HL.out, HF.out, List.append_nil]; exact hown, hbr⟩, by simp [intOf]; omega⟩
          | some A =>
            have HN := hide (ints_cells hAt)
            clear hAt hcap
            go_wp2_with (at_builtin; refine wpList_append_own _ rfl _ _ 24 rfl w.heap.size 3 i0 _ 1 8 Tryz.underlying24 hi hz0 hz1 hz2 rfl (by decide) _ s2 _ rfl hown A L.length cap (cellsV L) rfl (cellsV_len L) HN.out (oneV L) (by unfold maxLen; omega) (by omega) hsz ?_; intro v1 w2 hown1 hgrow1 _)
            exact ⟨⟨q + 1, by omega, by simp, by rw [HL.out, HF.out, cellsV_app]; exact hown1, hbr.grown hgrow1 hsz (fun k hk => (hown.lt k hk).1)⟩, by simp [intOf]; omega⟩
        · obtain rfl : q = Ps.length := by omega
          rw [List.take_length] at hown
          have HV := hide (And.intro (intsV_own hown) (show Fresh w.heap.size _ from fun k hk => (hown.lt k hk).1))
          clear hown
          go_wp2_with fail
          go_ret
          exact ⟨⟨_, rfl, HV.out.1, HV.out.2⟩, hbr⟩
end Go.Proofs.YtcjfmbeemdcklaaGreat

/-
  A region that draws its order and makes memory: the operations that read what the region leaves alone are taken first; then come the makers, in whatever order they may.
-/
namespace Go.Proofs.YtcjfmbeemdcklaaGreat
section
variable {P : Program} {ops : Array Oper} {Q : Exit → Act → World → Prop} {S : World → Prop}
def takesI (ops : Array Oper) : List Nat → Array Bool → Bool
  | [], _ => true
  | i :: l, listed => Region.free .any ops listed i && (Region.ready .any ops listed).contains i && takesI ops l (listed.setIfInBounds i true)
def listedI : List Nat → Array Bool → Array Bool
  | [], l => l
  | i :: l, listed => listedI l (listed.setIfInBounds i true)
def wpPureH (P : Program) (ops : Array Oper) (S : World → Prop) (K : Act → Prop) : List Nat → Act → Prop
  | [], a => K a
  | i :: rest, a => ∃ o v, ops[i]? = some o ∧ YieldsIf P ops S o v a ∧ wpPureH P ops S K rest (a.put o.dst v)
theorem wpPureH_nil {K : Act → Prop} {a : Act} (h : K a) : wpPureH P ops S K [] a := h
theorem wpPureH_step {K : Act → Prop} {i : Nat} {o : Oper} {rest : List Nat} {a : Act} (v : Value) (ho : ops[i]? = some o) (hg : o.guard = none)
    (h : ∀ w, S w → (execOp a.eval o).run P w = .ok (.value v) w) (h2 : wpPureH P ops S K rest (a.put o.dst v)) : wpPureH P ops S K (i :: rest) a :=
  ⟨o, v, ho, .inl ⟨by simp [Region.wanted, hg], h⟩, h2⟩
theorem takesH (hs : Region.noSelect ops = true) (hQ : ∀ c d v a w, Q (.panic c) (Act.put a d v) w → Q (.panic c) a w) {fuel : Nat} {w : World} (hS : S w) :
    ∀ (l : List Nat) (listed : Array Bool) (a : Act), takesI ops l listed = true →
      wpPureH P ops S (fun a' => wpAnyH P .any ops Q S fuel (listedI l listed) a' w) l a → wpAnyH P .any ops Q S (fuel + l.length) listed a w
  | [], listed, a, _, h => h
  | i :: l, listed, a, hk, h => by
    obtain ⟨o, v, h0, hy, hrest⟩ := h
    simp only [takesI, Bool.and_eq_true] at hk
    exact wpAnyH_take (i := i) (oi := o) (v := v) (fuel := fuel + l.length) h0 hs hk.1.1 hk.1.2 (fun c a w => hQ c o.dst v a w) hy hS (takesH hs hQ hS l (listed.setIfInBounds i true) (a.put o.dst v) hk.2 hrest)
theorem wp_region_reads {id : Nat} {a : Act} {w : World} {l : List Oper} (S : World → Prop) (idx : List Nat) (m : Nat) (hn : l.length = m + idx.length) (hm : P.follows .mixedOrders = true) (hs : Region.noSelect l.toArray = true)
    (hk : takesI l.toArray idx (Array.replicate (m + idx.length) false) = true) (hQ : ∀ c d v a w, Q (.panic c) (Act.put a d v) w → Q (.panic c) a w) (hS : S w.drew)
    (h : wpPureH P l.toArray S (fun a' => wpAnyH P .any l.toArray Q S m (listedI idx (Array.replicate (m + idx.length) false)) a' w.drew) idx a) : (Code.region id l.toArray true).wp P Q a w := by
  refine wp_region_held hm (S := S) ?_
  have := takesH (P := P) (ops := l.toArray) (Q := Q) (fuel := m) (w := w.drew) hs hQ hS idx (Array.replicate (m + idx.length) false) a hk h
  simpa [hn] using this
theorem one_readyH {i : Nat} {o : Oper} {fuel : Nat} {listed : Array Bool} {a : Act} {w : World} (hr : Region.ready .any ops listed = [i]) (ho : ops[i]? = some o) (hg : o.guard = none)
    (h : ∀ K' : Act → World → Prop, (∀ a w, S w → wpAnyH P .any ops Q S fuel (listed.setIfInBounds i true) a w → K' a w) → o.wp P a w K' Q) : wpAnyH P .any ops Q S (fuel + 1) listed a w := by
  refine wpAnyH_all hr (by simp) (fun j hj => ?_)
  obtain rfl : j = i := by simpa using hj
  unfold wpOp
  simp only [ho]
  rw [if_pos (by simp [Region.wanted, hg])]
  exact .inl (h _ (fun _ _ h1 h2 => ⟨h1, h2⟩))
theorem two_readyH {i j : Nat} {o p : Oper} {fuel : Nat} {listed : Array Bool} {a : Act} {w : World} (hr : Region.ready .any ops listed = [i, j]) (ho : ops[i]? = some o) (hg : o.guard = none) (hp : ops[j]? = some p) (hg' : p.guard = none)
    (h : ∀ K' : Act → World → Prop, (∀ a w, S w → wpAnyH P .any ops Q S fuel (listed.setIfInBounds i true) a w → K' a w) → o.wp P a w K' Q)
    (h' : ∀ K' : Act → World → Prop, (∀ a w, S w → wpAnyH P .any ops Q S fuel (listed.setIfInBounds j true) a w → K' a w) → p.wp P a w K' Q) : wpAnyH P .any ops Q S (fuel + 1) listed a w := by
  refine wpAnyH_all hr (by simp) (fun q hq => ?_)
  have hq' : q = i ∨ q = j := by simpa using hq
  rcases hq' with rfl | rfl
  · unfold wpOp
    simp only [ho]
    rw [if_pos (by simp [Region.wanted, hg])]
    exact .inl (h _ (fun _ _ h1 h2 => ⟨h1, h2⟩))
  · unfold wpOp
    simp only [hp]
    rw [if_pos (by simp [Region.wanted, hg'])]
    exact .inl (h' _ (fun _ _ h1 h2 => ⟨h1, h2⟩))
theorem three_readyH {i j k : Nat} {o p q : Oper} {fuel : Nat} {listed : Array Bool} {a : Act} {w : World} (hr : Region.ready .any ops listed = [i, j, k]) (ho : ops[i]? = some o) (hg : o.guard = none) (hp : ops[j]? = some p) (hg' : p.guard = none)
    (hq : ops[k]? = some q) (hg'' : q.guard = none)
    (h : ∀ K' : Act → World → Prop, (∀ a w, S w → wpAnyH P .any ops Q S fuel (listed.setIfInBounds i true) a w → K' a w) → o.wp P a w K' Q)
    (h' : ∀ K' : Act → World → Prop, (∀ a w, S w → wpAnyH P .any ops Q S fuel (listed.setIfInBounds j true) a w → K' a w) → p.wp P a w K' Q)
    (h'' : ∀ K' : Act → World → Prop, (∀ a w, S w → wpAnyH P .any ops Q S fuel (listed.setIfInBounds k true) a w → K' a w) → q.wp P a w K' Q) : wpAnyH P .any ops Q S (fuel + 1) listed a w := by
  refine wpAnyH_all hr (by simp) (fun n hn => ?_)
  have hn' : n = i ∨ n = j ∨ n = k := by simpa using hn
  rcases hn' with rfl | rfl | rfl
  · unfold wpOp
    simp only [ho]
    rw [if_pos (by simp [Region.wanted, hg])]
    exact .inl (h _ (fun _ _ h1 h2 => ⟨h1, h2⟩))
  · unfold wpOp
    simp only [hp]
    rw [if_pos (by simp [Region.wanted, hg'])]
    exact .inl (h' _ (fun _ _ h1 h2 => ⟨h1, h2⟩))
  · unfold wpOp
    simp only [hq]
    rw [if_pos (by simp [Region.wanted, hg''])]
    exact .inl (h'' _ (fun _ _ h1 h2 => ⟨h1, h2⟩))
end
end Go.Proofs.YtcjfmbeemdcklaaGreat

/-
  'with' (package denied): a list with an id more.
-/
namespace Go.Proofs.YtcjfmbeemdcklaaGreat
open Go.RowKit
theorem dAt_set {w : World} {A : Addr} {p : Addr} {u : Value} {n : Nat} {v : Value} (hne : p.block < A.block) (h : w.cell? (A.add n) = some v) : (w.setCell p u).cell? (A.add n) = some v := by
  rw [World.cell?_setCell_other]
  · exact h
  · intro e
    have : (A.add n).block = A.block := add_block A n
    rw [← e] at this
    omega
theorem IntsV.setD {w : World} {B : Nat} {v : Value} {L : List Int} (h : IntsV w v L) (hf : Fresh B v) {p : Addr} (hp : p.block < B) (u : Value) : IntsV (w.setCell p u) v L := by
  obtain ⟨o, c, rfl, h1, h2⟩ := h
  refine ⟨o, c, rfl, fun i x hi => ?_, h2⟩
  obtain ⟨b, rfl, a0⟩ := h1 i x hi
  have hB : B ≤ b.block := hf _ rfl
  exact ⟨b, rfl, dAt_set (by omega) a0⟩
theorem Fresh.monoD {B C : Nat} {v : Value} (h : Fresh B v) (hc : C ≤ B) : Fresh C v := fun k hk => Nat.le_trans hc (h k hk)
theorem IntsAt.takeD {w : World} {o : Option Addr} {L : List Int} (h : IntsAt w o L) (n : Nat) : IntsAt w o (L.take n) := fun i p hi => by
  rw [List.getElem?_take] at hi
  split at hi
  · exact h i p hi
  · cases hi
theorem dAdd_add (A : Addr) (n m : Nat) : (A.add n).add m = A.add (n + m) := by
  by_cases h1 : n = 0
  · subst h1; simp [Addr.add]
  · by_cases h2 : m = 0
    · subst h2; simp [Addr.add]
    · simp [Addr.add, h1, h2]
      omega
theorem IntsAt.drop {w : World} {A : Addr} {L : List Int} (h : IntsAt w (some A) L) (n c : Nat) (hc : L.length ≤ c) : IntsAt w (if c = n then some A else some (A.add n)) (L.drop n) := fun i p hi => by
  rw [List.getElem?_drop] at hi
  have hlt := (List.getElem?_eq_some_iff.1 hi).1
  rw [if_neg (by omega)]
  obtain ⟨b, hb, h6⟩ := h (n + i) p hi
  cases hb
  refine ⟨_, rfl, ?_⟩
  rw [dAdd_add]
  exact h6
theorem intsAt_single {w : World} {b : Nat} {j : Int} (h : w.cell? ⟨b, 0, none⟩ = some (.int .i64 j)) : IntsAt w (some ⟨b, 0, none⟩) [j] := by
  intro i v hv
  match i, hv with
  | 0, hv =>
    simp at hv
    subst hv
    exact ⟨_, rfl, by simpa [Addr.add] using h⟩
  | i + 1, hv => simp at hv
def posI (L : List Int) (id : Int) : Nat := L.findIdx fun x => decide (id < x)
def addI (L : List Int) (id : Int) : List Int := L.take (posI L id) ++ [id] ++ L.drop (posI L id)
set_option maxHeartbeats 3200000 in
theorem with_any (v id : Int) (L : List Int) (o : Option Addr) (cap : Nat) (w : World) (hL : IntsAt w o L) (hlen : L.length ≤ 12) (hcap : L.length ≤ cap) (hnone : o = none → cap = 0) (hv : 0 ≤ v) (hv' : v ≤ 999) :
    Calls Tryz.prog 125 #[dn v o L.length cap, .int .i64 id] w fun e w' => (∃ u, e = .returned (.agg #[.int .i64 (v + 1), u]) ∧ IntsV w' u (addI L id) ∧ Fresh w.heap.size u) ∧ Below w.heap.size w w' := by
  have HB := hide ((((Blks.nil w).more (.cells #[.int .i64 v, .slice o L.length cap] 118) (by simp)).more (.cells #[.int .i64 id] 3) (by simp)).more (.cells #[.int .i64 0, .slice none 0 0] 28) (by simp))
  have HI := hide (fun W (h1 : IntsAt W o L) (h2 : W.cell? ⟨w.heap.size + 1, 0, none⟩ = some (.int .i64 id)) => firstW_any (w.heap.size + 1) id v L o cap W h1 (by omega) h2)
  have HL := hide hL
  have hpos : posI L id ≤ L.length := List.findIdx_le_length
  have hwrap : IntKind.i64.wrap (v + 1) = v + 1 := by simp [IntKind.wrap, IntKind.bits]; omega
  clear hL
  unfold addI
  go_enter Tryz.func125, Tryz.ntmps125
  go_wp2_with fail
  refine (HI.out _ (HL.out.below HB.out.2.2) (HB.out.cell 1 0 _ _ _ _ rfl rfl rfl)).mono ?_
  rintro e w3 ⟨rfl, hb⟩
  have HB3 := hide (HB.out.on hb)
  clear hb HB HI
  change (L.findIdx fun x => decide (id < x)) ≤ L.length at hpos
  have HP : Hid (posI L id = L.findIdx fun x => decide (id < x)) := rfl
  generalize (L.findIdx fun x => decide (id < x)) = pos at *
  go_wp2_with fail
  have hposc : pos ≤ cap := by omega
  cases o with
  | none =>
    have hL0 : L = [] := by
      cases L with
      | nil => rfl
      | cons x T => obtain ⟨b, hb, -⟩ := HL.out 0 x rfl; cases hb
    obtain rfl : cap = 0 := hnone rfl
    subst hL0
    obtain rfl : pos = 0 := by simpa using hpos
    simp only [List.length_nil] at HB3 ⊢
    refine wp_region_reads (fun w' => Blks w w' ([] ++ [.cells #[.int .i64 v, .slice none 0 0] 118] ++ [.cells #[.int .i64 id] 3])) [0, 1, 2, 3, 4, 5, 6, 7, 8, 9, 11, 12, 13, 14, 15] 5 (by rfl) (by kernel_rfl) (by kernel_rfl) (by kernel_rfl) (fun c d v a w h => by cases d <;> exact h) ?_ ?_
    · exact (HB3.out.on (Below.refl _ _).drew).sub
    refine wpPureH_step (.pointer (some ⟨w.heap.size, 0, none⟩)) rfl rfl (fun w' hS => ?_) ?_
    · have x0 := hS.cell 0 0 w.heap.size _ _ _ rfl rfl rfl
      have x1 := hS.cell 0 1 w.heap.size _ _ _ rfl rfl rfl
      have y0 := hS.cell 1 0 (w.heap.size + 1) _ _ _ rfl rfl rfl
      go_simp
      try (intro h; omega)
    refine wpPureH_step (.pointer (some ⟨w.heap.size, 0, none⟩)) rfl rfl (fun w' hS => ?_) ?_
    · have x0 := hS.cell 0 0 w.heap.size _ _ _ rfl rfl rfl
      have x1 := hS.cell 0 1 w.heap.size _ _ _ rfl rfl rfl
      have y0 := hS.cell 1 0 (w.heap.size + 1) _ _ _ rfl rfl rfl
      go_simp
      try (intro h; omega)
    refine wpPureH_step (.int .i64 v) rfl rfl (fun w' hS => ?_) ?_
    · have x0 := hS.cell 0 0 w.heap.size _ _ _ rfl rfl rfl
      have x1 := hS.cell 0 1 w.heap.size _ _ _ rfl rfl rfl
      have y0 := hS.cell 1 0 (w.heap.size + 1) _ _ _ rfl rfl rfl
      go_simp
      try (intro h; omega)
    refine wpPureH_step (.int .i64 (v + 1)) rfl rfl (fun w' hS => ?_) ?_
    · have x0 := hS.cell 0 0 w.heap.size _ _ _ rfl rfl rfl
      have x1 := hS.cell 0 1 w.heap.size _ _ _ rfl rfl rfl
      have y0 := hS.cell 1 0 (w.heap.size + 1) _ _ _ rfl rfl rfl
      go_simp
      try (intro h; omega)
    refine wpPureH_step (.pointer (some ⟨w.heap.size, 0, none⟩)) rfl rfl (fun w' hS => ?_) ?_
    · have x0 := hS.cell 0 0 w.heap.size _ _ _ rfl rfl rfl
      have x1 := hS.cell 0 1 w.heap.size _ _ _ rfl rfl rfl
      have y0 := hS.cell 1 0 (w.heap.size + 1) _ _ _ rfl rfl rfl
      go_simp
      try (intro h; omega)
    refine wpPureH_step (.pointer (some ⟨w.heap.size, 1, none⟩)) rfl rfl (fun w' hS => ?_) ?_
    · have x0 := hS.cell 0 0 w.heap.size _ _ _ rfl rfl rfl
      have x1 := hS.cell 0 1 w.heap.size _ _ _ rfl rfl rfl
      have y0 := hS.cell 1 0 (w.heap.size + 1) _ _ _ rfl rfl rfl
      go_simp
      try (intro h; omega)
    refine wpPureH_step (.slice none 0 0) rfl rfl (fun w' hS => ?_) ?_
    · have x0 := hS.cell 0 0 w.heap.size _ _ _ rfl rfl rfl
      have x1 := hS.cell 0 1 w.heap.size _ _ _ rfl rfl rfl
      have y0 := hS.cell 1 0 (w.heap.size + 1) _ _ _ rfl rfl rfl
      go_simp
      try (intro h; omega)
    refine wpPureH_step (.int .i64 0) rfl rfl (fun w' hS => ?_) ?_
    · have x0 := hS.cell 0 0 w.heap.size _ _ _ rfl rfl rfl
      have x1 := hS.cell 0 1 w.heap.size _ _ _ rfl rfl rfl
      have y0 := hS.cell 1 0 (w.heap.size + 1) _ _ _ rfl rfl rfl
      go_simp
      try (intro h; omega)
    refine wpPureH_step (.slice none 0 0) rfl rfl (fun w' hS => ?_) ?_
    · have x0 := hS.cell 0 0 w.heap.size _ _ _ rfl rfl rfl
      have x1 := hS.cell 0 1 w.heap.size _ _ _ rfl rfl rfl
      have y0 := hS.cell 1 0 (w.heap.size + 1) _ _ _ rfl rfl rfl
      go_simp
      try (intro h; omega)
    refine wpPureH_step (.int .i64 id) rfl rfl (fun w' hS => ?_) ?_
    · have x0 := hS.cell 0 0 w.heap.size _ _ _ rfl rfl rfl
      have x1 := hS.cell 0 1 w.heap.size _ _ _ rfl rfl rfl
      have y0 := hS.cell 1 0 (w.heap.size + 1) _ _ _ rfl rfl rfl
      go_simp
      try (intro h; omega)
    refine wpPureH_step (.pointer (some ⟨w.heap.size, 0, none⟩)) rfl rfl (fun w' hS => ?_) ?_
    · have x0 := hS.cell 0 0 w.heap.size _ _ _ rfl rfl rfl
      have x1 := hS.cell 0 1 w.heap.size _ _ _ rfl rfl rfl
      have y0 := hS.cell 1 0 (w.heap.size + 1) _ _ _ rfl rfl rfl
      go_simp
      try (intro h; omega)
    refine wpPureH_step (.pointer (some ⟨w.heap.size, 1, none⟩)) rfl rfl (fun w' hS => ?_) ?_
    · have x0 := hS.cell 0 0 w.heap.size _ _ _ rfl rfl rfl
      have x1 := hS.cell 0 1 w.heap.size _ _ _ rfl rfl rfl
      have y0 := hS.cell 1 0 (w.heap.size + 1) _ _ _ rfl rfl rfl
      go_simp
      try (intro h; omega)
    refine wpPureH_step (.slice none 0 0) rfl rfl (fun w' hS => ?_) ?_
    · have x0 := hS.cell 0 0 w.heap.size _ _ _ rfl rfl rfl
      have x1 := hS.cell 0 1 w.heap.size _ _ _ rfl rfl rfl
      have y0 := hS.cell 1 0 (w.heap.size + 1) _ _ _ rfl rfl rfl
      go_simp
      try (intro h; omega)
    refine wpPureH_step (.int .i64 0) rfl rfl (fun w' hS => ?_) ?_
    · have x0 := hS.cell 0 0 w.heap.size _ _ _ rfl rfl rfl
      have x1 := hS.cell 0 1 w.heap.size _ _ _ rfl rfl rfl
      have y0 := hS.cell 1 0 (w.heap.size + 1) _ _ _ rfl rfl rfl
      go_simp
      try (intro h; omega)
    refine wpPureH_step (.slice none 0 0) rfl rfl (fun w' hS => ?_) ?_
    · have x0 := hS.cell 0 0 w.heap.size _ _ _ rfl rfl rfl
      have x1 := hS.cell 0 1 w.heap.size _ _ _ rfl rfl rfl
      have y0 := hS.cell 1 0 (w.heap.size + 1) _ _ _ rfl rfl rfl
      go_simp
      try (intro h; omega)
    refine wpPureH_nil ?_
    have HBa := hide (HB3.out.on ((Below.refl w3.heap.size w3).drew))
    clear HB3
    generalize w3.drew = wa at *
    refine one_readyH (i := 10) (by kernel_rfl) rfl rfl (fun K hK => ?_)
    go_simp
    have HBb := hide (HBa.out.on ((Below.refl wa.heap.size wa).alloc (Nat.le_refl _) (.cells #[.int .i64 id] 3)))
    have HKb : Hid ((wa.alloc (.cells #[.int .i64 id] 3)).cell? ⟨wa.heap.size, 0, none⟩ = some (.int .i64 id)) := hide (by simp [go_sem])
    refine hK _ _ HBb.out.sub ?_
    clear hK K HBa
    generalize wa.alloc (.cells #[.int .i64 id] 3) = wb at *
    refine one_readyH (i := 16) (by kernel_rfl) rfl rfl (fun K hK => ?_)
    go_simp
    have hbw := (Below.refl wb.heap.size wb).alloc (Nat.le_refl _) (.cells #[.slice none 0 0, .slice (some ⟨wa.heap.size, 0, none⟩) 1 1, .slice none 0 0] 24)
    have HBc := hide (HBb.out.on hbw)
    have HPc : Hid (PiecesV (wb.alloc (.cells #[.slice none 0 0, .slice (some ⟨wa.heap.size, 0, none⟩) 1 1, .slice none 0 0] 24)) ⟨wb.heap.size, 0, none⟩ [(none, [], 0), (some ⟨wa.heap.size, 0, none⟩, [id], 1), (none, [], 0)]) := by
      have hTw := HL.out.below HBc.out.2.2
      have hT6 : (wb.alloc (.cells #[.slice none 0 0, .slice (some ⟨wa.heap.size, 0, none⟩) 1 1, .slice none 0 0] 24)).cell? ⟨wa.heap.size, 0, none⟩ = some (.int .i64 id) := by rw [hbw.cell (World.block_lt_of_cell? wb _ HKb.out)]; exact HKb.out
      intro q o L' cap' hq
      match q, hq with
      | 0, hq =>
        simp at hq
        obtain ⟨rfl, rfl, rfl⟩ := hq
        exact ⟨by simp [Addr.add, go_sem], fun i p h => by simp at h, fun _ => rfl⟩
      | 1, hq =>
        simp at hq
        obtain ⟨rfl, rfl, rfl⟩ := hq
        exact ⟨by simp [Addr.add, go_sem], intsAt_single hT6, fun h => by cases h⟩
      | 2, hq =>
        simp at hq
        obtain ⟨rfl, rfl, rfl⟩ := hq
        exact ⟨by simp [Addr.add, go_sem], fun i p h => by simp at h, fun _ => rfl⟩
      | q + 3, hq => simp at hq
    refine hK _ _ HBc.out.sub ?_
    clear hK K HBb HKb hbw
    generalize wb.alloc (.cells #[.slice none 0 0, .slice (some ⟨wa.heap.size, 0, none⟩) 1 1, .slice none 0 0] 24) = wc at *
    refine one_readyH (i := 17) (by kernel_rfl) rfl rfl (fun K hK => ?_)
    go_simp
    refine (concatV_any _ _ 3 wc HPc.out (by simp) (by simp [lenS])).mono ?_
    rintro e wd ⟨⟨v1, rfl, hv1, hf1⟩, hbd⟩
    replace hv1 : IntsV wd v1 ([id]) := by simpa using hv1
    generalize hM : [id] = M at hv1
    have HM := hide hM
    clear hM
    obtain ⟨oa, ca, rfl, ha⟩ := hv1
    have hv1 : IntsV wd (.slice oa M.length ca) M := ⟨oa, ca, rfl, ha⟩
    clear ha
    have HBd := hide (HBc.out.on hbd)
    have hsz := HBc.out.2.1
    simp only [List.length_append, List.length_cons, List.length_nil] at hsz
    have HV1 := hide (And.intro hv1 (hf1.monoD (show w.heap.size + 1 + 1 + 1 ≤ wc.heap.size by omega)))
    clear hv1 hf1 hbd HPc HBc hsz
    refine hK _ _ HBd.out.sub ?_
    clear hK K
    refine one_readyH (i := 18) (by kernel_rfl) rfl rfl (fun K hK => ?_)
    go_simp
    refine hK _ _ HBd.out.sub ?_
    clear hK K
    obtain ⟨r0, r1⟩ := HBd.out.c2 2 (w.heap.size + 1 + 1) rfl rfl rfl rfl
    obtain ⟨s0, s1⟩ := HBd.out.z2 2 (w.heap.size + 1 + 1) rfl rfl
    refine one_readyH (i := 19) (by kernel_rfl) rfl rfl (fun K hK => ?_)
    go_simp
    have HKg := hide ((HBd.out.sub.set ⟨w.heap.size + 1 + 1, 0, none⟩ (by simp) (.int .i64 (v + 1))).set ⟨w.heap.size + 1 + 1, 1, none⟩ (by simp) (.slice oa M.length ca))
    have g0 : ((wd.setCell ⟨w.heap.size + 1 + 1, 0, none⟩ (.int .i64 (v + 1))).setCell ⟨w.heap.size + 1 + 1, 1, none⟩ (.slice oa M.length ca)).cell? ⟨w.heap.size + 1 + 1, 0, none⟩ = some (.int .i64 (v + 1)) := by simp [go_sem, r0]
    have g1 : ((wd.setCell ⟨w.heap.size + 1 + 1, 0, none⟩ (.int .i64 (v + 1))).setCell ⟨w.heap.size + 1 + 1, 1, none⟩ (.slice oa M.length ca)).cell? ⟨w.heap.size + 1 + 1, 1, none⟩ = some (.slice oa M.length ca) := by simp [go_sem, r1]
    have HVg := hide ((HV1.out.1.setD HV1.out.2 (p := ⟨w.heap.size + 1 + 1, 0, none⟩) (by simp) (.int .i64 (v + 1))).setD HV1.out.2 (p := ⟨w.heap.size + 1 + 1, 1, none⟩) (by simp) (.slice oa M.length ca))
    have HF := hide (HV1.out.2.monoD (show w.heap.size ≤ w.heap.size + 1 + 1 + 1 by omega))
    refine hK _ _ HKg.out ?_
    clear hK K HV1 HBd r0 r1 s0 s1
    generalize (wd.setCell ⟨w.heap.size + 1 + 1, 0, none⟩ (.int .i64 (v + 1))).setCell ⟨w.heap.size + 1 + 1, 1, none⟩ (.slice oa M.length ca) = wg at *
    refine wpAnyH_done (by kernel_rfl) ?_ _
    go_wp2_with fail
    refine bodyPost_ret (v := .agg #[.int .i64 (v + 1), .slice oa M.length ca]) (by simp [results, Tryz.results125, go_sem, g0, g1]) rfl ⟨⟨_, rfl, ?_, HF.out⟩, HKg.out.2.2⟩
    have HVo := HVg.out
    rw [← HM.out] at HVo ⊢
    simpa [HP.out] using HVo
  | some A =>
    refine wp_region_reads (fun w' => Blks w w' ([] ++ [.cells #[.int .i64 v, .slice (some A) L.length cap] 118] ++ [.cells #[.int .i64 id] 3])) [0, 1, 2, 3, 4, 5, 6, 7, 8, 9, 11, 12, 13, 14, 15] 5 (by rfl) (by kernel_rfl) (by kernel_rfl) (by kernel_rfl) (fun c d v a w h => by cases d <;> exact h) ?_ ?_
    · exact (HB3.out.on (Below.refl _ _).drew).sub
    refine wpPureH_step (.pointer (some ⟨w.heap.size, 0, none⟩)) rfl rfl (fun w' hS => ?_) ?_
    · have x0 := hS.cell 0 0 w.heap.size _ _ _ rfl rfl rfl
      have x1 := hS.cell 0 1 w.heap.size _ _ _ rfl rfl rfl
      have y0 := hS.cell 1 0 (w.heap.size + 1) _ _ _ rfl rfl rfl
      go_simp
      try (intro h; omega)
    refine wpPureH_step (.pointer (some ⟨w.heap.size, 0, none⟩)) rfl rfl (fun w' hS => ?_) ?_
    · have x0 := hS.cell 0 0 w.heap.size _ _ _ rfl rfl rfl
      have x1 := hS.cell 0 1 w.heap.size _ _ _ rfl rfl rfl
      have y0 := hS.cell 1 0 (w.heap.size + 1) _ _ _ rfl rfl rfl
      go_simp
      try (intro h; omega)
    refine wpPureH_step (.int .i64 v) rfl rfl (fun w' hS => ?_) ?_
    · have x0 := hS.cell 0 0 w.heap.size _ _ _ rfl rfl rfl
      have x1 := hS.cell 0 1 w.heap.size _ _ _ rfl rfl rfl
      have y0 := hS.cell 1 0 (w.heap.size + 1) _ _ _ rfl rfl rfl
      go_simp
      try (intro h; omega)
    refine wpPureH_step (.int .i64 (v + 1)) rfl rfl (fun w' hS => ?_) ?_
    · have x0 := hS.cell 0 0 w.heap.size _ _ _ rfl rfl rfl
      have x1 := hS.cell 0 1 w.heap.size _ _ _ rfl rfl rfl
      have y0 := hS.cell 1 0 (w.heap.size + 1) _ _ _ rfl rfl rfl
      go_simp
      try (intro h; omega)
    refine wpPureH_step (.pointer (some ⟨w.heap.size, 0, none⟩)) rfl rfl (fun w' hS => ?_) ?_
    · have x0 := hS.cell 0 0 w.heap.size _ _ _ rfl rfl rfl
      have x1 := hS.cell 0 1 w.heap.size _ _ _ rfl rfl rfl
      have y0 := hS.cell 1 0 (w.heap.size + 1) _ _ _ rfl rfl rfl
      go_simp
      try (intro h; omega)
    refine wpPureH_step (.pointer (some ⟨w.heap.size, 1, none⟩)) rfl rfl (fun w' hS => ?_) ?_
    · have x0 := hS.cell 0 0 w.heap.size _ _ _ rfl rfl rfl
      have x1 := hS.cell 0 1 w.heap.size _ _ _ rfl rfl rfl
      have y0 := hS.cell 1 0 (w.heap.size + 1) _ _ _ rfl rfl rfl
      go_simp
      try (intro h; omega)
    refine wpPureH_step (.slice (some A) L.length cap) rfl rfl (fun w' hS => ?_) ?_
    · have x0 := hS.cell 0 0 w.heap.size _ _ _ rfl rfl rfl
      have x1 := hS.cell 0 1 w.heap.size _ _ _ rfl rfl rfl
      have y0 := hS.cell 1 0 (w.heap.size + 1) _ _ _ rfl rfl rfl
      go_simp
      try (intro h; omega)
    refine wpPureH_step (.int .i64 (pos : Int)) rfl rfl (fun w' hS => ?_) ?_
    · have x0 := hS.cell 0 0 w.heap.size _ _ _ rfl rfl rfl
      have x1 := hS.cell 0 1 w.heap.size _ _ _ rfl rfl rfl
      have y0 := hS.cell 1 0 (w.heap.size + 1) _ _ _ rfl rfl rfl
      go_simp
      try (intro h; omega)
    refine wpPureH_step (.slice (some A) pos cap) rfl rfl (fun w' hS => ?_) ?_
    · have x0 := hS.cell 0 0 w.heap.size _ _ _ rfl rfl rfl
      have x1 := hS.cell 0 1 w.heap.size _ _ _ rfl rfl rfl
      have y0 := hS.cell 1 0 (w.heap.size + 1) _ _ _ rfl rfl rfl
      go_simp
      try (intro h; omega)
    refine wpPureH_step (.int .i64 id) rfl rfl (fun w' hS => ?_) ?_
    · have x0 := hS.cell 0 0 w.heap.size _ _ _ rfl rfl rfl
      have x1 := hS.cell 0 1 w.heap.size _ _ _ rfl rfl rfl
      have y0 := hS.cell 1 0 (w.heap.size + 1) _ _ _ rfl rfl rfl
      go_simp
      try (intro h; omega)
    refine wpPureH_step (.pointer (some ⟨w.heap.size, 0, none⟩)) rfl rfl (fun w' hS => ?_) ?_
    · have x0 := hS.cell 0 0 w.heap.size _ _ _ rfl rfl rfl
      have x1 := hS.cell 0 1 w.heap.size _ _ _ rfl rfl rfl
      have y0 := hS.cell 1 0 (w.heap.size + 1) _ _ _ rfl rfl rfl
      go_simp
      try (intro h; omega)
    refine wpPureH_step (.pointer (some ⟨w.heap.size, 1, none⟩)) rfl rfl (fun w' hS => ?_) ?_
    · have x0 := hS.cell 0 0 w.heap.size _ _ _ rfl rfl rfl
      have x1 := hS.cell 0 1 w.heap.size _ _ _ rfl rfl rfl
      have y0 := hS.cell 1 0 (w.heap.size + 1) _ _ _ rfl rfl rfl
      go_simp
      try (intro h; omega)
    refine wpPureH_step (.slice (some A) L.length cap) rfl rfl (fun w' hS => ?_) ?_
    · have x0 := hS.cell 0 0 w.heap.size _ _ _ rfl rfl rfl
      have x1 := hS.cell 0 1 w.heap.size _ _ _ rfl rfl rfl
      have y0 := hS.cell 1 0 (w.heap.size + 1) _ _ _ rfl rfl rfl
      go_simp
      try (intro h; omega)
    refine wpPureH_step (.int .i64 (pos : Int)) rfl rfl (fun w' hS => ?_) ?_
    · have x0 := hS.cell 0 0 w.heap.size _ _ _ rfl rfl rfl
      have x1 := hS.cell 0 1 w.heap.size _ _ _ rfl rfl rfl
      have y0 := hS.cell 1 0 (w.heap.size + 1) _ _ _ rfl rfl rfl
      go_simp
      try (intro h; omega)
    refine wpPureH_step (.slice (if cap = pos then some A else some (A.add pos)) (L.length - pos) (cap - pos)) rfl rfl (fun w' hS => ?_) ?_
    · have x0 := hS.cell 0 0 w.heap.size _ _ _ rfl rfl rfl
      have x1 := hS.cell 0 1 w.heap.size _ _ _ rfl rfl rfl
      have y0 := hS.cell 1 0 (w.heap.size + 1) _ _ _ rfl rfl rfl
      go_simp
      try (intro h; omega)
    refine wpPureH_nil ?_
    have HD := hide (fun W (h : IntsAt W (some A) L) => h.drop pos cap hcap)
    have HDn : Hid ((if cap = pos then some A else some (A.add pos)) = none → cap - pos = 0) := hide (fun h => by split at h <;> cases h)
    generalize (if cap = pos then some A else some (A.add pos)) = oD at HD HDn ⊢
    have HBa := hide (HB3.out.on ((Below.refl w3.heap.size w3).drew))
    clear HB3
    generalize w3.drew = wa at *
    refine one_readyH (i := 10) (by kernel_rfl) rfl rfl (fun K hK => ?_)
    go_simp
    have HBb := hide (HBa.out.on ((Below.refl wa.heap.size wa).alloc (Nat.le_refl _) (.cells #[.int .i64 id] 3)))
    have HKb : Hid ((wa.alloc (.cells #[.int .i64 id] 3)).cell? ⟨wa.heap.size, 0, none⟩ = some (.int .i64 id)) := hide (by simp [go_sem])
    refine hK _ _ HBb.out.sub ?_
    clear hK K HBa
    generalize wa.alloc (.cells #[.int .i64 id] 3) = wb at *
    refine one_readyH (i := 16) (by kernel_rfl) rfl rfl (fun K hK => ?_)
    go_simp
    have hbw := (Below.refl wb.heap.size wb).alloc (Nat.le_refl _) (.cells #[.slice (some A) pos cap, .slice (some ⟨wa.heap.size, 0, none⟩) 1 1, .slice oD (L.length - pos) (cap - pos)] 24)
    have HBc := hide (HBb.out.on hbw)
    have HPc : Hid (PiecesV (wb.alloc (.cells #[.slice (some A) pos cap, .slice (some ⟨wa.heap.size, 0, none⟩) 1 1, .slice oD (L.length - pos) (cap - pos)] 24)) ⟨wb.heap.size, 0, none⟩ [((some A), L.take pos, cap), (some ⟨wa.heap.size, 0, none⟩, [id], 1), (oD, L.drop pos, cap - pos)]) := by
      have hTw := HL.out.below HBc.out.2.2
      have hT6 : (wb.alloc (.cells #[.slice (some A) pos cap, .slice (some ⟨wa.heap.size, 0, none⟩) 1 1, .slice oD (L.length - pos) (cap - pos)] 24)).cell? ⟨wa.heap.size, 0, none⟩ = some (.int .i64 id) := by rw [hbw.cell (World.block_lt_of_cell? wb _ HKb.out)]; exact HKb.out
      intro q o L' cap' hq
      match q, hq with
      | 0, hq =>
        simp at hq
        obtain ⟨rfl, rfl, rfl⟩ := hq
        refine ⟨?_, hTw.takeD pos, fun h => by cases h⟩
        rw [List.length_take, Nat.min_eq_left hpos]
        simp [Addr.add, go_sem]
      | 1, hq =>
        simp at hq
        obtain ⟨rfl, rfl, rfl⟩ := hq
        exact ⟨by simp [Addr.add, go_sem], intsAt_single hT6, fun h => by cases h⟩
      | 2, hq =>
        simp at hq
        obtain ⟨rfl, rfl, rfl⟩ := hq
        refine ⟨?_, HD.out _ hTw, HDn.out⟩
        rw [List.length_drop]
        simp [Addr.add, go_sem]
      | q + 3, hq => simp at hq
    refine hK _ _ HBc.out.sub ?_
    clear hK K HBb HKb hbw
    generalize wb.alloc (.cells #[.slice (some A) pos cap, .slice (some ⟨wa.heap.size, 0, none⟩) 1 1, .slice oD (L.length - pos) (cap - pos)] 24) = wc at *
    refine one_readyH (i := 17) (by kernel_rfl) rfl rfl (fun K hK => ?_)
    go_simp
    refine (concatV_any _ _ 3 wc HPc.out (by simp) (by simp [lenS]; omega)).mono ?_
    rintro e wd ⟨⟨v1, rfl, hv1, hf1⟩, hbd⟩
    replace hv1 : IntsV wd v1 (L.take pos ++ [id] ++ L.drop pos) := by simpa using hv1
    generalize hM : L.take pos ++ [id] ++ L.drop pos = M at hv1
    have HM := hide hM
    clear hM
    obtain ⟨oa, ca, rfl, ha⟩ := hv1
    have hv1 : IntsV wd (.slice oa M.length ca) M := ⟨oa, ca, rfl, ha⟩
    clear ha
    have HBd := hide (HBc.out.on hbd)
    have hsz := HBc.out.2.1
    simp only [List.length_append, List.length_cons, List.length_nil] at hsz
    have HV1 := hide (And.intro hv1 (hf1.monoD (show w.heap.size + 1 + 1 + 1 ≤ wc.heap.size by omega)))
    clear hv1 hf1 hbd HPc HBc hsz
    refine hK _ _ HBd.out.sub ?_
    clear hK K
    refine one_readyH (i := 18) (by kernel_rfl) rfl rfl (fun K hK => ?_)
    go_simp
    refine hK _ _ HBd.out.sub ?_
    clear hK K
    obtain ⟨r0, r1⟩ := HBd.out.c2 2 (w.heap.size + 1 + 1) rfl rfl rfl rfl
    obtain ⟨s0, s1⟩ := HBd.out.z2 2 (w.heap.size + 1 + 1) rfl rfl
    refine one_readyH (i := 19) (by kernel_rfl) rfl rfl (fun K hK => ?_)
    go_simp
    have HKg := hide ((HBd.out.sub.set ⟨w.heap.size + 1 + 1, 0, none⟩ (by simp) (.int .i64 (v + 1))).set ⟨w.heap.size + 1 + 1, 1, none⟩ (by simp) (.slice oa M.length ca))
    have g0 : ((wd.setCell ⟨w.heap.size + 1 + 1, 0, none⟩ (.int .i64 (v + 1))).setCell ⟨w.heap.size + 1 + 1, 1, none⟩ (.slice oa M.length ca)).cell? ⟨w.heap.size + 1 + 1, 0, none⟩ = some (.int .i64 (v + 1)) := by simp [go_sem, r0]
    have g1 : ((wd.setCell ⟨w.heap.size + 1 + 1, 0, none⟩ (.int .i64 (v + 1))).setCell ⟨w.heap.size + 1 + 1, 1, none⟩ (.slice oa M.length ca)).cell? ⟨w.heap.size + 1 + 1, 1, none⟩ = some (.slice oa M.length ca) := by simp [go_sem, r1]
    have HVg := hide ((HV1.out.1.setD HV1.out.2 (p := ⟨w.heap.size + 1 + 1, 0, none⟩) (by simp) (.int .i64 (v + 1))).setD HV1.out.2 (p := ⟨w.heap.size + 1 + 1, 1, none⟩) (by simp) (.slice oa M.length ca))
    have HF := hide (HV1.out.2.monoD (show w.heap.size ≤ w.heap.size + 1 + 1 + 1 by omega))
    refine hK _ _ HKg.out ?_
    clear hK K HV1 HBd r0 r1 s0 s1
    generalize (wd.setCell ⟨w.heap.size + 1 + 1, 0, none⟩ (.int .i64 (v + 1))).setCell ⟨w.heap.size + 1 + 1, 1, none⟩ (.slice oa M.length ca) = wg at *
    refine wpAnyH_done (by kernel_rfl) ?_ _
    go_wp2_with fail
    refine bodyPost_ret (v := .agg #[.int .i64 (v + 1), .slice oa M.length ca]) (by simp [results, Tryz.results125, go_sem, g0, g1]) rfl ⟨⟨_, rfl, ?_, HF.out⟩, HKg.out.2.2⟩
    have HVo := HVg.out
    rw [← HM.out] at HVo ⊢
    simpa [HP.out] using HVo
end Go.Proofs.YtcjfmbeemdcklaaGreat

/-
  'full', 'Add', 'Has' (package denied).
-/
namespace Go.Proofs.YtcjfmbeemdcklaaGreat
open Go.RowKit
def fullD (v : Int) (L : List Int) : Bool := ((L.length : Int) == 12) || (v == 999)
theorem fullD_any (v : Int) (L : List Int) (o : Option Addr) (c : Nat) (w : World) :
    Calls Tryz.prog 124 #[dn v o L.length c] w fun e w' => e = .returned (.bool (fullD v L)) ∧ Below w.heap.size w w' := by
  unfold fullD
  cases h : ((L.length : Int) == 12)
  all_goals
    go_enter Tryz.func124, Tryz.ntmps124
    go_wp2
    go_ret
    exact ⟨by simp, (Below.refl _ _).alloc (Nat.le_refl _) _⟩
def addE (v : Int) (L : List Int) (id : Int) : Int := if unfD v L id = 0 then (if hasI L id = true then 6 else if fullD v L = true then 2 else 0) else unfD v L id
theorem addE_ways (v : Int) (L : List Int) (id : Int) : ((unfD v L id != 0) = true ∧ addE v L id = unfD v L id) ∨ (unfD v L id = 0 ∧ hasI L id = true ∧ addE v L id = 6) ∨ (unfD v L id = 0 ∧ hasI L id = false ∧ fullD v L = true ∧ addE v L id = 2) ∨ (unfD v L id = 0 ∧ hasI L id = false ∧ fullD v L = false ∧ addE v L id = 0) := by
  rw [addE]
  by_cases h : unfD v L id = 0
  · right
    cases hasI L id <;> cases fullD v L <;> simp [h]
  · left; simp [h]
theorem chkD_right {v : Int} {L : List Int} (h : chkD v L = 0) : 0 ≤ v ∧ v ≤ 999 ∧ L.length ≤ 12 ∧ errD 0 L = 0 ∧ (L.length : Int) ≤ v := by
  rcases chkD_ways v L with h1 | h1 | h1 | h1 | h1
  · omega
  · omega
  · exact absurd (h1.2.2.2.symm.trans h) h1.2.2.1
  · omega
  · have := (wi_iff _ _ _).1 h1.1
    exact ⟨this.1, this.2, by omega, h1.2.2.1, by omega⟩
theorem unfD_right {v : Int} {L : List Int} {id : Int} (h : unfD v L id = 0) : chkD v L = 0 ∧ wi id 1 9999 = true := by
  rcases unfD_ways v L id with ⟨h1, h2⟩ | ⟨h1, h2, h3⟩ | ⟨h1, h2, h3⟩
  · rw [h2] at h
    rw [h] at h1
    cases h1
  · omega
  · exact ⟨h1, h2⟩
def DenF (B : Nat) (w : World) (v : Value) (n : Int) (L : List Int) : Prop := ∃ u, v = .agg #[.int .i64 n, u] ∧ IntsV w u L ∧ Fresh B u
theorem denF_none (B : Nat) (w : World) : DenF B w (dn 0 none 0 0) 0 [] := ⟨_, rfl, ⟨none, 0, rfl, fun i p h => by simp at h, by simp, fun _ => rfl⟩, fun k hk => by simp [Value.ownBlock] at hk⟩
set_option maxRecDepth 100000 in
set_option maxHeartbeats 3200000 in
theorem addF_any (v id : Int) (L : List Int) (o : Option Addr) (cap : Nat) (w : World) (hL : IntsAt w o L) (hlen : L.length ≤ 9223372036854775807) (hcap : L.length ≤ cap) (hnone : o = none → cap = 0) :
    Calls Tryz.prog 71 #[dn v o L.length cap, .int .i64 id] w fun e w' =>
      (∃ u, e = .returned (.tuple #[u, .int .i64 (addE v L id)]) ∧ DenF w.heap.size w' u (if addE v L id = 0 then v + 1 else 0) (if addE v L id = 0 then addI L id else [])) ∧ Below w.heap.size w w' := by
  have HB := hide (((Blks.nil w).more (.cells #[.int .i64 v, .slice o L.length cap] 28) (by simp)).more (.cells #[.int .i64 0, .slice none 0 0] 28) (by simp))
  have HU := hide (fun W (h1 : IntsAt W o L) => denUnfit_any v L o cap id W h1 hlen)
  have HH := hide (fun W (h1 : IntsAt W o L) => denHas_any v id L o cap W h1 hlen)
  have HF := hide (fun W => fullD_any v L o cap W)
  have HW := hide (fun W (h1 : IntsAt W o L) (h2 : unfD v L id = 0) => with_any v id L o cap W h1 (chkD_right (unfD_right h2).1).2.2.1 hcap hnone (chkD_right (unfD_right h2).1).1 (chkD_right (unfD_right h2).1).2.1)
  have HL := hide hL
  have hp := addE_ways v L id
  generalize addE v L id = E at *
  generalize unfD v L id = X at *
  generalize hasI L id = Y at *
  generalize fullD v L = Z at *
  generalize addI L id = M at *
  clear hL
  rcases hp with ⟨h1, rfl⟩ | ⟨rfl, rfl, rfl⟩ | ⟨rfl, rfl, rfl, rfl⟩ | ⟨rfl, rfl, rfl, rfl⟩
  all_goals first
    | rw [if_pos rfl, if_pos rfl]
    | rw [if_neg (show ¬ (6 : Int) = 0 by decide), if_neg (show ¬ (6 : Int) = 0 by decide)]
    | rw [if_neg (show ¬ (2 : Int) = 0 by decide), if_neg (show ¬ (2 : Int) = 0 by decide)]
    | (have hE : ¬ E = 0 := by simpa using h1
       rw [if_neg hE, if_neg hE]
       clear hE)
  all_goals
    go_enter Tryz.func71, Tryz.ntmps71
    go_wp2_with fail
    refine (HU.out _ (HL.out.below HB.out.2.2)).mono ?_
    rintro e w1 ⟨rfl, hb1⟩
    have HB1 := hide (HB.out.on hb1)
    clear hb1 HB
    obtain ⟨x0, x1⟩ := HB1.out.c2 0 w.heap.size rfl rfl rfl rfl
    obtain ⟨r0, r1⟩ := HB1.out.c2 1 (w.heap.size + 1) rfl rfl rfl rfl
    obtain ⟨s0, s1⟩ := HB1.out.z2 1 (w.heap.size + 1) rfl rfl
    go_wp2_with fail
  · refine bodyPost_ret (v := .tuple #[dn 0 none 0 0, .int .i64 E]) (by simp [results, Tryz.results71, go_sem, *]) rfl ⟨⟨_, rfl, ?_⟩, ?_⟩
    · exact denF_none _ _
    · repeat (first | with_reducible refine Below.setCell ?_ (by simp; try omega) _ | exact HB1.out.2.2)
  all_goals
    have HK := hide ((Blks.nil w1).more (.cells #[.int .i64 v, .slice o L.length cap] 118) (by simp))
    refine (HH.out _ (HL.out.below (HB1.out.on HK.out.2.2).2.2)).mono ?_
    rintro e w2 ⟨rfl, hb2⟩
    have HK2 := hide (HK.out.on hb2)
    have HB2 := hide (HB1.out.on HK2.out.2.2)
    clear hb2 HB1 HK x0 x1 r0 r1 s0 s1
    obtain ⟨x0, x1⟩ := HK2.out.c2 0 w1.heap.size rfl rfl rfl rfl
    obtain ⟨r0, r1⟩ := HB2.out.c2 1 (w.heap.size + 1) rfl rfl rfl rfl
    obtain ⟨s0, s1⟩ := HB2.out.z2 1 (w.heap.size + 1) rfl rfl
    go_wp2_with fail
  · refine bodyPost_ret (v := .tuple #[dn 0 none 0 0, .int .i64 6]) (by simp [results, Tryz.results71, go_sem, *]) rfl ⟨⟨_, rfl, ?_⟩, ?_⟩
    · exact denF_none _ _
    · repeat (first | with_reducible refine Below.setCell ?_ (by simp; try omega) _ | exact HB2.out.2.2)
  all_goals
    refine (HF.out _).mono ?_
    rintro e w3 ⟨rfl, hb3⟩
    have HK3 := hide (HK2.out.on hb3)
    have HB3 := hide (HB2.out.on hb3)
    clear hb3 HB2 HK2 x0 x1 r0 r1 s0 s1
    obtain ⟨x0, x1⟩ := HK3.out.c2 0 w1.heap.size rfl rfl rfl rfl
    obtain ⟨r0, r1⟩ := HB3.out.c2 1 (w.heap.size + 1) rfl rfl rfl rfl
    obtain ⟨s0, s1⟩ := HB3.out.z2 1 (w.heap.size + 1) rfl rfl
    go_wp2_with fail
  · refine bodyPost_ret (v := .tuple #[dn 0 none 0 0, .int .i64 2]) (by simp [results, Tryz.results71, go_sem, *]) rfl ⟨⟨_, rfl, ?_⟩, ?_⟩
    · exact denF_none _ _
    · repeat (first | with_reducible refine Below.setCell ?_ (by simp; try omega) _ | exact HB3.out.2.2)
  · refine (HW.out _ (HL.out.below HB3.out.2.2) trivial).mono ?_
    rintro e w4 ⟨⟨u, rfl, ⟨oa, ca, rfl, ha⟩, hf⟩, hb4⟩
    have HB4 := hide (HB3.out.on hb4)
    have hsz := HB3.out.2.1
    simp only [List.length_append, List.length_cons, List.length_nil] at hsz
    have HV := hide (And.intro (show IntsV w4 (.slice oa M.length ca) M from ⟨oa, ca, rfl, ha⟩) (hf.monoD (show w.heap.size + 1 + 1 ≤ w3.heap.size by omega)))
    clear hb4 HB3 HK3 x0 x1 r0 r1 s0 s1 ha hf hsz
    obtain ⟨r0, r1⟩ := HB4.out.c2 1 (w.heap.size + 1) rfl rfl rfl rfl
    obtain ⟨s0, s1⟩ := HB4.out.z2 1 (w.heap.size + 1) rfl rfl
    go_wp2_with fail
    refine bodyPost_ret (v := .tuple #[.agg #[.int .i64 (v + 1), .slice oa M.length ca], .int .i64 0]) (by simp [results, Tryz.results71, go_sem, *]) rfl ⟨⟨_, rfl, ⟨_, rfl, ?_, HV.out.2.monoD (by omega)⟩⟩, ?_⟩
    · exact (HV.out.1.setD HV.out.2 (p := ⟨w.heap.size + 1, 0, none⟩) (by simp) (.int .i64 (v + 1))).setD HV.out.2 (p := ⟨w.heap.size + 1, 1, none⟩) (by simp) (.slice oa M.length ca)
    · repeat (first | with_reducible refine Below.setCell ?_ (by simp; try omega) _ | exact HB4.out.2.2)
set_option maxHeartbeats 1600000 in
theorem has_any (v id : Int) (L : List Int) (o : Option Addr) (cap : Nat) (w : World) (hL : IntsAt w o L) (hlen : L.length ≤ 9223372036854775807) :
    Calls Tryz.prog 26 #[dn v o L.length cap, .int .i64 id] w fun e w' => e = .returned (.tuple #[.bool (decide (unfD v L id = 0) && hasI L id), .int .i64 (unfD v L id)]) ∧ Below w.heap.size w w' := by
  have HB := hide ((Blks.nil w).more (.cells #[.int .i64 v, .slice o L.length cap] 28) (by simp))
  have HU := hide (fun W (h1 : IntsAt W o L) => denUnfit_any v L o cap id W h1 hlen)
  have HH := hide (fun W (h1 : IntsAt W o L) => denHas_any v id L o cap W h1 hlen)
  have HL := hide hL
  generalize unfD v L id = X at *
  generalize hasI L id = Y at *
  clear hL
  by_cases hX : X = 0
  · subst hX
    simp only [decide_true, Bool.true_and]
    go_enter Tryz.func26, Tryz.ntmps26
    go_wp2_with fail
    refine (HU.out _ (HL.out.below HB.out.2.2)).mono ?_
    rintro e w1 ⟨rfl, hb1⟩
    have HB1 := hide (HB.out.on hb1)
    clear hb1 HB
    obtain ⟨x0, x1⟩ := HB1.out.c2 0 w.heap.size rfl rfl rfl rfl
    go_wp2_with fail
    refine (HH.out _ (HL.out.below HB1.out.2.2)).mono ?_
    rintro e w2 ⟨rfl, hb2⟩
    have HB2 := hide (HB1.out.on hb2)
    clear hb2 HB1 x0 x1
    go_wp2_with fail
    go_ret2
    exact ⟨rfl, HB2.out.2.2⟩
  · have h1 : (X != 0) = true := by simpa using hX
    rw [decide_eq_false hX, Bool.false_and]
    clear hX
    go_enter Tryz.func26, Tryz.ntmps26
    go_wp2_with fail
    refine (HU.out _ (HL.out.below HB.out.2.2)).mono ?_
    rintro e w1 ⟨rfl, hb1⟩
    have HB1 := hide (HB.out.on hb1)
    clear hb1 HB
    go_wp2_with fail
    go_ret2
    exact ⟨rfl, HB1.out.2.2⟩
end Go.Proofs.YtcjfmbeemdcklaaGreat

/-
  A gate's own small checks: 'checkSelf', 'owns', 'follows', 'checkBudget', 'early', 'full' (package gate).
-/
namespace Go.Proofs.YtcjfmbeemdcklaaGreat
open Go.RowKit
abbrev cG (i z s : Int) (oa : Option Addr) (na ca : Nat) (v : Int) (od : Option Addr) (nd cd : Nat) (l u : Int) (T : TypeId) : Obj := .cells #[.int .i64 i, .int .i64 z, .int .i64 s, .slice oa na ca, .int .i64 v, .slice od nd cd, .int .i64 l, .int .i64 u] T
def errS (i z s : Int) (n : Nat) : Int := if (wi i 0 2 && wi s 0 99) = false then 3 else if isZ z = false then 9 else if 12 < n then 2 else 0
set_option maxHeartbeats 1600000 in
theorem checkSelf_any (i z s : Int) (oa : Option Addr) (na ca : Nat) (v : Int) (od : Option Addr) (nd cd : Nat) (l u : Int) (w : World) :
    Calls Tryz.prog 132 #[gtV i z s oa na ca v od nd cd l u] w fun e w' => e = .returned (.int .i64 (errS i z s na)) ∧ Below w.heap.size w w' := by
  generalize hE : errS i z s na = E
  have hp : (wi i 0 2 = false ∧ E = 3) ∨ (wi i 0 2 = true ∧ wi s 0 99 = false ∧ E = 3) ∨ (wi i 0 2 = true ∧ wi s 0 99 = true ∧ isZ z = false ∧ E = 9) ∨ (wi i 0 2 = true ∧ wi s 0 99 = true ∧ isZ z = true ∧ 12 < na ∧ E = 2) ∨ (wi i 0 2 = true ∧ wi s 0 99 = true ∧ isZ z = true ∧ ¬ 12 < na ∧ E = 0) := by
    rw [← hE, errS]
    cases wi i 0 2 <;> cases wi s 0 99 <;> cases isZ z <;> by_cases h : 12 < na <;> simp [h]
  clear hE
  rcases hp with ⟨h1, rfl⟩ | ⟨h1, h2, rfl⟩ | ⟨h1, h2, h3, rfl⟩ | ⟨h1, h2, h3, h4, rfl⟩ | ⟨h1, h2, h3, h4, rfl⟩
  all_goals
    go_enter Tryz.func132, Tryz.ntmps132
    go_wp2_with first | (go_at_call 137; refine (within_any _ _ _ _).mono ?_; rintro e w' ⟨rfl, rfl⟩) | (go_at_call 155; refine (oneZone_any _ _).mono ?_; rintro e w' ⟨rfl, rfl⟩)
    go_ret
    exact ⟨by simp, (Below.refl _ _).alloc (Nat.le_refl _) _⟩
theorem owns_any (i z s : Int) (oa : Option Addr) (na ca : Nat) (v : Int) (od : Option Addr) (nd cd : Nat) (l u a g q m y : Int) (w : World) :
    Calls Tryz.prog 164 #[gtV i z s oa na ca v od nd cd l u, tp a g q m y] w fun e w' => e = .returned (.bool (g == i && y == z)) ∧ Below w.heap.size w w' := by
  cases h1 : (g == i)
  all_goals
    go_enter Tryz.func164, Tryz.ntmps164
    go_wp2
    go_ret
    exact ⟨by simp, ((Below.refl _ _).alloc (Nat.le_refl _) _).alloc (by simp) _⟩
def folB (l p : TP) : Bool := decide (l.m ≤ p.m) && (p.s == l.s + 1)
theorem follows_any (l p : TP) (w : World) (h1 : 0 ≤ l.s) (h2 : l.s ≤ 99) :
    Calls Tryz.prog 165 #[tp l.a l.g l.s l.m l.z, tp p.a p.g p.s p.m p.z] w fun e w' => e = .returned (.bool (folB l p)) ∧ Below w.heap.size w w' := by
  unfold folB
  by_cases h : l.m ≤ p.m
  all_goals
    go_enter Tryz.func165, Tryz.ntmps165
    go_wp2
    go_ret
    exact ⟨by first | (simp [h]; done) | (simp; omega), ((Below.refl _ _).alloc (Nat.le_refl _) _).alloc (by simp) _⟩
def errB (l u : Int) : Int := if (wi l 0 9 && wi u 0 10099) = true then 0 else 3
theorem checkBudget_any (i z s : Int) (oa : Option Addr) (na ca : Nat) (v : Int) (od : Option Addr) (nd cd : Nat) (l u : Int) (w : World) :
    Calls Tryz.prog 134 #[gtV i z s oa na ca v od nd cd l u] w fun e w' => e = .returned (.int .i64 (errB l u)) ∧ Below w.heap.size w w' := by
  unfold errB
  cases h1 : wi l 0 9 <;> cases h2 : wi u 0 10099
  all_goals
    simp only [Bool.and_true, Bool.and_false, Bool.false_eq_true, if_false, if_true]
    go_enter Tryz.func134, Tryz.ntmps134
    go_wp2_with (go_at_call 137; refine (within_any _ _ _ _).mono ?_; rintro e w' ⟨rfl, rfl⟩)
    go_ret
    exact ⟨by simp, (Below.refl _ _).alloc (Nat.le_refl _) _⟩
def fullG (n : Nat) (s : Int) : Bool := ((n : Int) == 12) || (s == 99)
theorem fullG_any (i z s : Int) (oa : Option Addr) (na ca : Nat) (v : Int) (od : Option Addr) (nd cd : Nat) (l u : Int) (w : World) :
    Calls Tryz.prog 82 #[gtV i z s oa na ca v od nd cd l u] w fun e w' => e = .returned (.bool (fullG na s)) ∧ Below w.heap.size w w' := by
  unfold fullG
  cases h : ((na : Int) == 12)
  all_goals
    go_enter Tryz.func82, Tryz.ntmps82
    go_wp2
    go_ret
    exact ⟨by simp, (Below.refl _ _).alloc (Nat.le_refl _) _⟩
def earlyG (P : List TP) (m : Int) : Bool := match P.getLast? with
  | none => false
  | some p => decide (m < p.m)
set_option maxHeartbeats 1600000 in
theorem earlyG_any (i z s : Int) (oa : Option Addr) (P : List TP) (ca : Nat) (v : Int) (od : Option Addr) (nd cd : Nat) (l u m : Int) (w : World) (hP : TapsAt w oa P) (hlen : P.length ≤ 12) :
    Calls Tryz.prog 136 #[gtV i z s oa P.length ca v od nd cd l u, .int .i64 m] w fun e w' => e = .returned (.bool (earlyG P m)) ∧ Below w.heap.size w w' := by
  rcases hn : P.length with _ | n
  · have hL0 : P = [] := List.eq_nil_of_length_eq_zero hn
    subst hL0
    clear hP
    go_enter Tryz.func136, Tryz.ntmps136
    go_wp2
    try (go_region; go_wp2)
    go_ret
    exact ⟨by simp [earlyG], by first | exact ((Below.refl _ _).alloc (Nat.le_refl _) _).drew | exact (Below.refl _ _).alloc (Nat.le_refl _) _⟩
  · obtain ⟨p, hp⟩ : ∃ p, P[n]? = some p := ⟨P[n]'(by omega), by simp [hn]⟩
    have HE : Hid (earlyG P m = decide (m < p.m)) := by
      show _ = _
      rw [earlyG, List.getLast?_eq_getElem?, hn, Nat.add_sub_cancel, hp]
    obtain ⟨A, rfl, h5⟩ := hP n p hp
    have hnb : n < 60 := by omega
    obtain ⟨d0, d1, d2, d3, d4⟩ := h5.below ((Below.refl w.heap.size w).alloc (Nat.le_refl _) (cG i z s (some A) (n + 1) ca v od nd cd l u 124)) h5.lt
    clear h5 hP hp hn hlen
    go_enter Tryz.func136, Tryz.ntmps136
    go_wp2
    try (go_region; go_wp2)
    go_ret
    exact ⟨by rw [HE.out]; rfl, by first | exact ((Below.refl _ _).alloc (Nat.le_refl _) _).drew | exact (Below.refl _ _).alloc (Nat.le_refl _) _⟩
end Go.Proofs.YtcjfmbeemdcklaaGreat

/-
  'checkAlone' (package gate): what was let through alone, one by one.
-/
namespace Go.Proofs.YtcjfmbeemdcklaaGreat
open Go.RowKit
theorem ite_of_not {c : Prop} [Decidable c] {a b : Prop} (hc : ¬ c) (hb : b) : if c then a else b := by
  rw [if_neg hc]
  exact hb
def okA (i z : Int) (l : Option TP) (p : TP) : Bool := (p.g == i && p.z == z) && (match l with | none => true | some y => folB y p)
def errA (i z : Int) : Option TP → List TP → Int
  | _, [] => 0
  | l, p :: r => if chkT p = 0 then (if okA i z l p = true then errA i z (some p) r else 4) else chkT p
theorem errA_ways (i z : Int) (l : Option TP) (p : TP) (r : List TP) : ((chkT p != 0) = true ∧ errA i z l (p :: r) = chkT p) ∨ (chkT p = 0 ∧ okA i z l p = false ∧ errA i z l (p :: r) = 4) ∨ (chkT p = 0 ∧ okA i z l p = true ∧ errA i z l (p :: r) = errA i z (some p) r) := by
  rw [errA]
  by_cases h : chkT p = 0
  · right
    cases okA i z l p <;> simp [h]
  · left; simp [h]
def errQ (s : Int) (A : List TP) : Int := match A.getLast? with
  | none => 0
  | some p => if p.s = s then 0 else 4
def aloneE (i z s : Int) (A : List TP) : Int := if errA i z none A = 0 then errQ s A else errA i z none A
set_option maxHeartbeats 3200000 in
theorem checkAlone_any (i z s : Int) (oa : Option Addr) (P : List TP) (ca : Nat) (v : Int) (od : Option Addr) (nd cd : Nat) (l u : Int) (w : World) (hP : TapsAt w oa P) (hlen : P.length ≤ 12) :
    Calls Tryz.prog 133 #[gtV i z s oa P.length ca v od nd cd l u] w fun e w' => e = .returned (.int .i64 (aloneE i z s P)) ∧ Below w.heap.size w w' := by
  have HG := hide ((Blks.nil w).more (cG i z s oa P.length ca v od nd cd l u 124) (by simp))
  have HP := hide hP
  have HA : Hid (errA i z none P ≠ 0 → aloneE i z s P = errA i z none P) := fun h => by rw [aloneE, if_neg h]
  have HZ : Hid (errA i z none P = 0 → aloneE i z s P = errQ s P) := fun h => by rw [aloneE, if_pos h]
  generalize aloneE i z s P = R at *
  clear hP
  go_enter Tryz.func133, Tryz.ntmps133
  go_wp2_with fail
  go_loopw [11] (fun j wr => ∃ (q : Nat) (y : Option TP), q ≤ P.length ∧ j = .int .i64 q ∧ Hid (errA i z none P = errA i z y (P.drop q) ∧ (q = 0 → y = none) ∧ (∀ k, q = k + 1 → ∃ x, y = some x ∧ P[k]? = some x ∧ 0 ≤ x.s ∧ x.s ≤ 99)) ∧ Hid (Blks w wr ([] ++ [cG i z s oa P.length ca v od nd cd l u 124]))) (fun j _ => P.length - (intOf j).toNat)
  case atStart => exact ⟨0, none, Nat.zero_le _, rfl, ⟨by simp, fun _ => rfl, fun k h => by omega⟩, HG⟩
  case round =>
    obtain ⟨q, y, hq, rfl, hE, HB⟩ := hrel
    obtain ⟨x0, x1, x2, x3⟩ := HB.out.c4 0 w.heap.size rfl rfl rfl rfl rfl rfl
    by_cases hgo : q < P.length
    · obtain ⟨p, hp⟩ : ∃ p, P[q]? = some p := ⟨P[q], by simp [hgo]⟩
      obtain ⟨A, rfl, e0, e1, e2, e3, e4⟩ := HP.out.below HB.out.2.2 q p hp
      have HX := hide hp
      have hE' := hE.out.1
      rw [drop_cons hp] at hE'
      have hw := errA_ways i z y p (P.drop (q + 1))
      rw [← hE'] at hw
      clear hE' hp
      go_wp2_with fail
      have HT := hide ((Blks.nil wr).more (cP p.a p.g p.s p.m p.z 58) (by simp))
      refine (checkP_any p.a p.g p.s p.m p.z _).mono ?_
      rintro e w2 ⟨rfl, hb⟩
      have HT2 := hide (HT.out.on hb)
      have HB2 := hide (HB.out.on HT2.out.2.2)
      clear hb HT HB x0 x1 x2 x3 e0 e1 e2 e3 e4
      have hk : chkP p.a p.g p.s p.m p.z = chkT p := rfl
      rw [hk]
      clear hk
      have HC := hide (fun (h : chkT p = 0) => chkP_right (a := p.a) (g := p.g) (s := p.s) (m := p.m) (z := p.z) h)
      generalize chkT p = X at *
      rcases hw with ⟨h1, h2⟩ | h1
      · have HR := hide ((HA.out (by rw [h2]; simpa using h1)).trans h2)
        clear h2
        go_wp2_with fail
        go_ret
        exact ⟨by rw [HR.out]; rfl, HB2.out.2.2⟩
      · have hX : X = 0 := by rcases h1 with h | h <;> exact h.1
        subst hX
        have hs := (HC.out rfl).2.2.1
        replace h1 : (okA i z y p = false ∧ errA i z none P = 4) ∨ (okA i z y p = true ∧ errA i z none P = errA i z (some p) (P.drop (q + 1))) := by
          rcases h1 with h | h
          · exact Or.inl h.2
          · exact Or.inr h.2
        clear HC
        go_wp2_with fail
        have x0 := cell_regrown (HB2.out.cell 0 0 w.heap.size _ _ _ rfl rfl rfl)
        have x1 := cell_regrown (HB2.out.cell 0 1 w.heap.size _ _ _ rfl rfl rfl)
        have x2 := cell_regrown (HB2.out.cell 0 2 w.heap.size _ _ _ rfl rfl rfl)
        have x3 := cell_regrown (HB2.out.cell 0 3 w.heap.size _ _ _ rfl rfl rfl)
        have x4 := cell_regrown (HB2.out.cell 0 4 w.heap.size _ _ _ rfl rfl rfl)
        have x5 := cell_regrown (HB2.out.cell 0 5 w.heap.size _ _ _ rfl rfl rfl)
        have x6 := cell_regrown (HB2.out.cell 0 6 w.heap.size _ _ _ rfl rfl rfl)
        have x7 := cell_regrown (HB2.out.cell 0 7 w.heap.size _ _ _ rfl rfl rfl)
        have t0 := cell_regrown (HT2.out.cell 0 0 wr.heap.size _ _ _ rfl rfl rfl)
        have t1 := cell_regrown (HT2.out.cell 0 1 wr.heap.size _ _ _ rfl rfl rfl)
        have t2 := cell_regrown (HT2.out.cell 0 2 wr.heap.size _ _ _ rfl rfl rfl)
        have t3 := cell_regrown (HT2.out.cell 0 3 wr.heap.size _ _ _ rfl rfl rfl)
        have t4 := cell_regrown (HT2.out.cell 0 4 wr.heap.size _ _ _ rfl rfl rfl)
        have cO : ∀ d os, Calls Tryz.prog 164 #[gtV i z s (some A) P.length ca v od nd cd l u, tp p.a p.g p.s p.m p.z] (Sort.grow (redrawn w2 d) os) fun e w'' => e = .returned (.bool (p.g == i && p.z == z)) ∧ ∃ p : Regrown, w'' = Sort.grow (redrawn w2 p.d) p.os :=
          fun d os => Calls.regrown_of (owns_any i z s (some A) P.length ca v od nd cd l u p.a p.g p.s p.m p.z _)
        cases ho : (p.g == i && p.z == z)
        · have h4 : errA i z none P = 4 := by
            rcases h1 with h | h
            · exact h.2
            · simp [okA, ho] at h
          have HR := hide ((HA.out (by rw [h4]; decide)).trans h4)
          clear h1 h4
          rw [ho] at cO
          clear ho
          refine wp_region_quiet_below (by kernel_rfl) (by kernel_rfl) ?_
          iterate 20
            refine wpQuiet_step (fun K hK => ?_)
            try subst hact
            go_simp
            try refine ite_of_not (by intro h; cases h) ?_
            first
              | (generalize hact : ({ tmps := _, defers := _ } : Act) = aa
                 refine hK aa ?_
                 clear hK K)
              | (apply Exists.intro
                 refine ⟨fun _ => ?_, ?_⟩
                 first | exact cO _ _
                 generalize hact : ({ tmps := _, defers := _ } : Act) = aa
                 refine hK aa ?_
                 clear hK K)
          try subst hact
          refine wpQuiet_nil ?_
          intro _ hw'
          obtain ⟨⟨dq, osq⟩, hw''⟩ := hw'
          subst hw''
          have HB3 := hide (HB2.out.on (below_regrown w2 dq osq))
          clear x0 x1 x2 x3 x4 x5 x6 x7 t0 t1 t2 t3 t4 cO HB2 HT2
          go_wp2_with fail
          go_ret
          exact ⟨by rw [HR.out]; rfl, HB3.out.2.2⟩
        · rw [ho] at cO
          have HO := hide ho
          have H1 := hide h1
          clear ho h1
          rcases q with _ | k
          · obtain rfl : y = none := hE.out.2.1 rfl
            have HN : Hid (errA i z none P = errA i z (some p) (P.drop (0 + 1)) ∧ (0 + 1 = 0 → some p = none) ∧ (∀ k, 0 + 1 = k + 1 → ∃ x, some p = some x ∧ P[k]? = some x ∧ 0 ≤ x.s ∧ x.s ≤ 99)) := by
              refine ⟨?_, fun h => by omega, fun k hk => ⟨p, rfl, ?_, by omega, by omega⟩⟩
              · rcases H1.out with h | h
                · simp [okA, HO.out] at h
                · exact h.2
              · obtain rfl : k = 0 := by omega
                exact HX.out
            clear H1 HO hE
            refine wp_region_quiet_below (by kernel_rfl) (by kernel_rfl) ?_
            iterate 20
              refine wpQuiet_step (fun K hK => ?_)
              try subst hact
              go_simp
              try refine ite_of_not (by intro h; cases h) ?_
              first
                | (generalize hact : ({ tmps := _, defers := _ } : Act) = aa
                   refine hK aa ?_
                   clear hK K)
                | (apply Exists.intro
                   refine ⟨fun _ => ?_, ?_⟩
                   first | exact cO _ _
                   generalize hact : ({ tmps := _, defers := _ } : Act) = aa
                   refine hK aa ?_
                   clear hK K)
            try subst hact
            refine wpQuiet_nil ?_
            intro _ hw'
            obtain ⟨⟨dq, osq⟩, hw''⟩ := hw'
            subst hw''
            have HB3 := hide (HB2.out.on (below_regrown w2 dq osq))
            clear x0 x1 x2 x3 x4 x5 x6 x7 t0 t1 t2 t3 t4 cO HB2 HT2
            go_wp2_with fail
            exact ⟨⟨0 + 1, some p, by omega, by simp, HN, HB3⟩, by simp [intOf]; omega⟩
          · obtain ⟨x, rfl, hx, hs0, hs1⟩ := hE.out.2.2 k rfl
            obtain ⟨A', hA', f0, f1, f2, f3, f4⟩ := HP.out.below HB2.out.2.2 k x hx
            cases hA'
            have y0 := cell_regrown f0
            have y1 := cell_regrown f1
            have y2 := cell_regrown f2
            have y3 := cell_regrown f3
            have y4 := cell_regrown f4
            have cF : ∀ d os, Calls Tryz.prog 165 #[tp x.a x.g x.s x.m x.z, tp p.a p.g p.s p.m p.z] (Sort.grow (redrawn w2 d) os) fun e w'' => e = .returned (.bool (folB x p)) ∧ ∃ p : Regrown, w'' = Sort.grow (redrawn w2 p.d) p.os :=
              fun d os => Calls.regrown_of (follows_any x p _ hs0 hs1)
            have HX' := hide hx
            clear f0 f1 f2 f3 f4 hx
            have hwk : IntKind.i64.wrap (k : Int) = (k : Int) := by rw [IntKind.wrap_i64]; omega
            have hk0 : (0 : Int) ≤ (k : Int) := by omega
            have hkl : (k : Int) < (P.length : Int) := by omega
            cases hf : folB x p
            all_goals
              rw [hf] at cF
              have HF := hide hf
              clear hf
            · have h4 : errA i z none P = 4 := by
                rcases H1.out with h | h
                · exact h.2
                · simp [okA, HO.out, HF.out] at h
              have HR := hide ((HA.out (by rw [h4]; decide)).trans h4)
              clear H1 HO h4 hE HF
              refine wp_region_quiet_below (by kernel_rfl) (by kernel_rfl) ?_
              iterate 20
                refine wpQuiet_step (fun K hK => ?_)
                try subst hact
                go_simp
                try refine ite_of_not (by intro h; cases h) ?_
                first
                  | (generalize hact : ({ tmps := _, defers := _ } : Act) = aa
                     refine hK aa ?_
                     clear hK K)
                  | (apply Exists.intro
                     refine ⟨fun _ => ?_, ?_⟩
                     first | exact cO _ _ | exact cF _ _
                     generalize hact : ({ tmps := _, defers := _ } : Act) = aa
                     refine hK aa ?_
                     clear hK K)
              try subst hact
              refine wpQuiet_nil ?_
              intro _ hw'
              obtain ⟨⟨dq, osq⟩, hw''⟩ := hw'
              subst hw''
              have HB3 := hide (HB2.out.on (below_regrown w2 dq osq))
              clear x0 x1 x2 x3 x4 x5 x6 x7 t0 t1 t2 t3 t4 cO cF HB2 HT2
              go_wp2_with fail
              go_ret
              exact ⟨by rw [HR.out]; rfl, HB3.out.2.2⟩
            · have HN : Hid (errA i z none P = errA i z (some p) (P.drop (k + 1 + 1)) ∧ (k + 1 + 1 = 0 → some p = none) ∧ (∀ j, k + 1 + 1 = j + 1 → ∃ x, some p = some x ∧ P[j]? = some x ∧ 0 ≤ x.s ∧ x.s ≤ 99)) := by
                refine ⟨?_, fun h => by omega, fun j hj => ⟨p, rfl, ?_, by omega, by omega⟩⟩
                · rcases H1.out with h | h
                  · simp [okA, HO.out, HF.out] at h
                  · exact h.2
                · obtain rfl : j = k + 1 := by omega
                  exact HX.out
              clear H1 HO hE
              refine wp_region_quiet_below (by kernel_rfl) (by kernel_rfl) ?_
              iterate 20
                refine wpQuiet_step (fun K hK => ?_)
                try subst hact
                go_simp
                try refine ite_of_not (by intro h; cases h) ?_
                first
                  | (generalize hact : ({ tmps := _, defers := _ } : Act) = aa
                     refine hK aa ?_
                     clear hK K)
                  | (apply Exists.intro
                     refine ⟨fun _ => ?_, ?_⟩
                     first | exact cO _ _ | exact cF _ _
                     generalize hact : ({ tmps := _, defers := _ } : Act) = aa
                     refine hK aa ?_
                     clear hK K)
              try subst hact
              refine wpQuiet_nil ?_
              intro _ hw'
              obtain ⟨⟨dq, osq⟩, hw''⟩ := hw'
              subst hw''
              have HB3 := hide (HB2.out.on (below_regrown w2 dq osq))
              clear x0 x1 x2 x3 x4 x5 x6 x7 t0 t1 t2 t3 t4 cO cF HB2 HT2
              go_wp2_with fail
              exact ⟨⟨k + 1 + 1, some p, by omega, by simp, HN, HB3⟩, by simp [intOf]; omega⟩
    · have hE' := hE.out.1
      rw [List.drop_of_length_le (by omega)] at hE'
      have HR := hide (HZ.out hE')
      clear hE' hE
      rcases hn : P.length with _ | n
      · have hL0 : P = [] := List.eq_nil_of_length_eq_zero hn
        subst hL0
        have H0 : Hid (errQ s [] = 0) := rfl
        simp only [List.length_nil] at x3 HB hq hgo ⊢
        obtain rfl : q = 0 := by omega
        go_wp2_with fail
        go_region
        go_wp2_with fail
        go_ret
        exact ⟨by rw [HR.out, H0.out]; rfl, (HB.out.on (Below.refl _ _).drew).2.2⟩
      · obtain ⟨x, hx⟩ : ∃ x, P[n]? = some x := ⟨P[n]'(by omega), by simp [hn]⟩
        have HQ : Hid (errQ s P = if x.s = s then 0 else 4) := by
          show _ = _
          rw [errQ, List.getLast?_eq_getElem?, hn, Nat.add_sub_cancel, hx]
        obtain ⟨A, rfl, e0, e1, e2, e3, e4⟩ := HP.out.below HB.out.2.2 n x hx
        clear hx
        rw [hn] at x3 hq hgo hlen HB
        obtain rfl : q = n + 1 := by omega
        by_cases hs : x.s = s
        · have h0 : (x.s != s) = false := by simpa using hs
          have HF := hide (HR.out.trans (HQ.out.trans (if_pos hs)))
          clear hs
          go_wp2_with fail
          go_region
          go_wp2_with fail
          go_ret
          exact ⟨by rw [HF.out]; rfl, (HB.out.on (Below.refl _ _).drew).2.2⟩
        · have h0 : (x.s != s) = true := by simpa using hs
          have HF := hide (HR.out.trans (HQ.out.trans (if_neg hs)))
          clear hs
          go_wp2_with fail
          go_region
          go_wp2_with fail
          go_ret
          exact ⟨by rw [HF.out]; rfl, (HB.out.on (Below.refl _ _).drew).2.2⟩
end Go.Proofs.YtcjfmbeemdcklaaGreat
