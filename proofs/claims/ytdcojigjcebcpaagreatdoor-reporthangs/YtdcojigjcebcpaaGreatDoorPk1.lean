/-
  Texts joined: T1, G0, RB1, RB3, RB2, T12, R1, R2, R3, R4, R5, R6, L1, P1, P2, P3, P4, L2, L3, L4, L5, L6, L7, L8, A1, K1, K2, K3, K4, H1, S1, H2, P5, S2, M2, M4, W1, A2, R7, A6, T2, T3, C1, C2, C3.
-/
import Derived.Test.YtdcojigjcebcpaaGreatDoorRows
import Derived.WalkKit
import Derived.ProofKit
import Derived.OpenShut
import Derived.Lib.AppendStr
import Derived.Lib.UnsafeStr
import Derived.Lib.OthersKept
import Derived.Lib.Builder
import Derived.Laws.Rows
import Derived.Shelf.LaysM
import Derived.Shelf.Strconv.Itoa3
import Derived.OwnWalk
import Derived.Lib.QuietBelow
import Derived.BigQuiet
import Derived.Laws.AppendOwnNone
import Derived.Lib.SliceRun
import Derived.Lib.AppendZeros
import Derived.OrdersHeld
import Derived.Great.Frames
import Derived.Deep.DeepAppendRoom
import Derived.Laws.BytesString
import Derived.Laws.IdiomStrings
import Derived.Maps.AppendAt
import Derived.WalkLawsBesides
import Derived.Lib.Bytealg
import Derived.Laws.Externs
set_option maxHeartbeats 12800000
set_option maxRecDepth 100000
namespace Go.Proofs.YtdcojigjcebcpaaGreatDoor
section
open Go.RowKit
theorem zA {p : Prop} (h : p) : Hid p := h
theorem unhide {p : Prop} (h : Hid p) : p := h
def wi (n a b : Int) : Bool := decide (a ≤ n) && decide (n ≤ b)
theorem yH (n a b : Int) : wi n a b = true ↔ (a ≤ n ∧ n ≤ b) := by simp [wi]
theorem zN (n a b : Int) (w : World) :
  Calls Tryz.prog 89 #[.int .i64 n, .int .i64 a, .int .i64 b] w fun e w' => e = .returned (.bool (wi n a b)) ∧ w' = w := by
 by_cases h1 : a ≤ n
 ·go_enter Tryz.func89, Tryz.ntmps89
  go_wp2
  all_goals go_ret
  all_goals exact ⟨by simp [wi, *], rfl⟩
 ·go_enter Tryz.func89, Tryz.ntmps89
  go_wp2
  all_goals go_ret
  all_goals exact ⟨by simp [wi, *]; try omega, rfl⟩
theorem isTime_any (n : Int) (w : World) :
  Calls Tryz.prog 114 #[.int .i64 n] w fun e w' => e = .returned (.bool (wi n 0 9999)) ∧ w' = w := by
 go_enter Tryz.func114, Tryz.ntmps114
 go_wp2_with fail
 refine (zN _ _ _ _).mono ?_
 rintro e w1 ⟨rfl, rfl⟩
 go_wp2_with fail
 go_ret
 exact ⟨rfl, rfl⟩
abbrev tk (i k f t z r : Int) : Value := .agg #[.int .i64 i, .int .i64 k, .int .i64 f, .int .i64 t, .int .i64 z, .int .i64 r]
def inR (i f t z : Int) : Bool := wi i 1 9999 && wi f 0 9999 && wi t 0 9999 && wi z 1 15
def yO (k r : Int) : Bool := if k = 3 then wi r 2 9 else decide (r = 0)
theorem inRange_any (i k f t z r : Int) (w : World) :
  Calls Tryz.prog 95 #[tk i k f t z r] w fun e w' => e = .returned (.bool (inR i f t z)) ∧ Below w.heap.size w w' := by
 cases h1 : wi i 1 9999 <;> cases h2 : wi f 0 9999 <;> cases h3 : wi t 0 9999
 all_goals
  go_enter Tryz.func95, Tryz.ntmps95
  go_wp2_with first | (go_at_call 89; refine (zN _ _ _ _).mono ?_; rintro e w' ⟨rfl, rfl⟩) | (go_at_call 114; refine (isTime_any _ _).mono ?_; rintro e w' ⟨rfl, rfl⟩)
  go_ret
  exact ⟨by simp [inR, *], (Below.refl _ _).alloc (Nat.le_refl _) _⟩
theorem ridesFit_any (i k f t z r : Int) (w : World) :
  Calls Tryz.prog 96 #[tk i k f t z r] w fun e w' => e = .returned (.bool (yO k r)) ∧ Below w.heap.size w w' := by
 by_cases h1 : k = 3
 ·have h1' : (k == 3) = true := by simpa using h1
  have H := (show Hid (k = 3) from h1)
  clear h1
  go_enter Tryz.func96, Tryz.ntmps96
  go_wp2_with (go_at_call 89; refine (zN _ _ _ _).mono ?_; rintro e w' ⟨rfl, rfl⟩)
  go_ret
  exact ⟨by simp [yO, H.out], (Below.refl _ _).alloc (Nat.le_refl _) _⟩
 ·have h1' : (k == 3) = false := by simpa using h1
  go_enter Tryz.func96, Tryz.ntmps96
  go_wp2_with (go_at_call 89; refine (zN _ _ _ _).mono ?_; rintro e w' ⟨rfl, rfl⟩)
  go_ret
  exact ⟨by simp [yO, h1]; try rfl, (Below.refl _ _).alloc (Nat.le_refl _) _⟩
def chk (i k f t z r : Int) : Int :=
 if inR i f t z = false then 3 else if wi k 1 3 = false then 7 else if t < f then 4 else if yO k r = false then 1 else 0
theorem bcell {W w1 : World} (hb : Below W.heap.size W w1) : (∀ b o, b < W.heap.size → w1.cell? ⟨b, o, none⟩ = W.cell? ⟨b, o, none⟩) ∧ (∀ b o, b < W.heap.size → w1.frozen? ⟨b, o, none⟩ = W.frozen? ⟨b, o, none⟩) :=
 ⟨fun b o h => hb.cell (p := ⟨b, o, none⟩) h, fun b o h => hb.frozen (p := ⟨b, o, none⟩) h⟩
theorem check_any (i k f t z r : Int) (w : World) :
  Calls Tryz.prog 71 #[tk i k f t z r] w fun e w' => e = .returned (.int .i64 (chk i k f t z r)) ∧ Below w.heap.size w w' := by
 cases h1 : inR i f t z
 ·go_enter Tryz.func71, Tryz.ntmps71
  go_wp2_with fail
  refine (inRange_any _ _ _ _ _ _ _).mono ?_
  rintro e w1 ⟨rfl, hb⟩
  obtain ⟨hc, hf⟩ := bcell hb
  go_wp2_with fail
  go_ret
  exact ⟨by simp [chk, h1], ((Below.refl _ _).alloc (Nat.le_refl _) _).trans (hb.mono (by simp))⟩
 ·cases h2 : wi k 1 3
  ·go_enter Tryz.func71, Tryz.ntmps71
   go_wp2_with fail
   refine (inRange_any _ _ _ _ _ _ _).mono ?_
   rintro e w1 ⟨rfl, hb⟩
   obtain ⟨hc, hf⟩ := bcell hb
   go_wp2_with fail
   refine (zN _ _ _ _).mono ?_
   rintro e w2 ⟨rfl, rfl⟩
   go_wp2_with fail
   go_ret
   exact ⟨by simp [chk, h1, h2], ((Below.refl _ _).alloc (Nat.le_refl _) _).trans (hb.mono (by simp))⟩
  ·by_cases h3 : t < f
   ·go_enter Tryz.func71, Tryz.ntmps71
    go_wp2_with fail
    refine (inRange_any _ _ _ _ _ _ _).mono ?_
    rintro e w1 ⟨rfl, hb⟩
    obtain ⟨hc, hf⟩ := bcell hb
    go_wp2_with fail
    refine (zN _ _ _ _).mono ?_
    rintro e w2 ⟨rfl, rfl⟩
    go_wp2_with fail
    go_ret
    exact ⟨by simp [chk, h1, h2, h3], ((Below.refl _ _).alloc (Nat.le_refl _) _).trans (hb.mono (by simp))⟩
   ·cases h4 : yO k r
    all_goals
     go_enter Tryz.func71, Tryz.ntmps71
     go_wp2_with fail
     refine (inRange_any _ _ _ _ _ _ _).mono ?_
     rintro e w1 ⟨rfl, hb⟩
     obtain ⟨hc, hf⟩ := bcell hb
     go_wp2_with fail
     refine (zN _ _ _ _).mono ?_
     rintro e w2 ⟨rfl, rfl⟩
     go_wp2_with fail
     refine (ridesFit_any _ _ _ _ _ _ _).mono ?_
     rintro e w3 ⟨rfl, hb2⟩
     go_wp2_with fail
     go_ret
     exact ⟨by simp [chk, h1, h2, h3, h4], (((Below.refl _ _).alloc (Nat.le_refl _) _).trans (hb.mono (by simp))).trans (hb2.mono (by have := hb.size; simp at this; omega))⟩
def zM (w w1 : World) (os : List Obj) : Prop :=
 (∀ i o, os[i]? = some o → w1.heap[w.heap.size + i]? = some o) ∧ w.heap.size + os.length ≤ w1.heap.size ∧ Below w.heap.size w w1
theorem zM.nil (w : World) : zM w w [] := ⟨fun i o h => by simp at h, by simp, Below.refl _ _⟩
theorem zM.on {w w1 w2 : World} {os : List Obj} (h : zM w w1 os) (hb : Below w1.heap.size w1 w2) : zM w w2 os := by
 refine ⟨fun i o hi => ?_, Nat.le_trans h.2.1 hb.size, h.2.2.trans (hb.mono h.2.2.size)⟩
 have h1 := h.1 i o hi
 have hlt : w.heap.size + i < w1.heap.size := by
  have := (List.getElem?_eq_some_iff.1 hi).1
  have := h.2.1
  omega
 rw [hb.block _ hlt]
 exact h1
theorem zM.more {w w1 : World} {os : List Obj} (h : zM w w1 os) (o : Obj) (he : w1.heap.size = w.heap.size + os.length) : zM w (w1.alloc o) (os ++ [o]) := by
 refine ⟨fun i x hi => ?_, by simp; omega, h.2.2.alloc h.2.2.size _⟩
 rcases Nat.lt_or_ge i os.length with hlt | hge
 ·rw [List.getElem?_append_left hlt] at hi
  have h1 := h.1 i x hi
  rw [((Below.refl w1.heap.size w1).alloc (Nat.le_refl _) o).block _ (by omega)]
  exact h1
 ·rw [List.getElem?_append_right hge] at hi
  have h0 : i - os.length = 0 := by
   have := (List.getElem?_eq_some_iff.1 hi).1
   simp at this
   omega
  rw [h0] at hi
  simp at hi
  subst hi
  rw [show w.heap.size + i = w1.heap.size by omega]
  exact heap_alloc_new w1 o
theorem zM.cell {w w1 : World} {os : List Obj} (h : zM w w1 os) (i j b : Nat) (vs : Array Value) (T : TypeId) (v : Value) (hi : os[i]? = some (.cells vs T)) (hb : b = w.heap.size + i) (hj : vs[j]? = some v) :
  w1.cell? ⟨b, j, none⟩ = some v := by
 subst hb
 rw [cell_of_row _ _ j _ _ _ (h.1 i _ hi)]
 exact hj
theorem zM.frozen {w w1 : World} {os : List Obj} (h : zM w w1 os) (i j b : Nat) (vs : Array Value) (T : TypeId) (hi : os[i]? = some (.cells vs T)) (hb : b = w.heap.size + i) :
  w1.frozen? ⟨b, j, none⟩ = false := by
 subst hb
 exact frozen_of_row _ _ j _ _ (h.1 i _ hi)
theorem zM.keep {w w1 w2 : World} {os : List Obj} (h : zM w w1 os) (hb : Below (w.heap.size + os.length) w1 w2) : zM w w2 os := by
 refine ⟨fun i o hi => ?_, Nat.le_trans h.2.1 hb.size, h.2.2.trans (hb.mono (Nat.le_add_right _ _))⟩
 have hlt := (List.getElem?_eq_some_iff.1 hi).1
 rw [hb.block _ (by omega)]
 exact h.1 i o hi
theorem zM.set {w w1 : World} {os : List Obj} (h : zM w w1 os) (p : Addr) (hp : w.heap.size + os.length ≤ p.block) (u : Value) : zM w (w1.setCell p u) os :=
 h.keep (Below.setCell (Below.refl _ _) hp u)
theorem zM.lt {w w1 : World} {os : List Obj} (h : zM w w1 os) (i b : Nat) (hi : i < os.length) (hb : b = w.heap.size + i) : b < w1.heap.size := by
 have := h.2.1
 omega
theorem zM.put {w w1 : World} {os : List Obj} (h : zM w w1 os) (i j b : Nat) (vs : Array Value) (T : TypeId) (u : Value) (hi : os[i]? = some (.cells vs T)) (hb : b = w.heap.size + i) :
  zM w (w1.setCell ⟨b, j, none⟩ u) (os.set i (.cells (vs.setIfInBounds j u) T)) := by
 subst hb
 refine ⟨fun n o hn => ?_, by rw [List.length_set, World.size_setCell]; exact h.2.1, h.2.2.setCell (p := ⟨w.heap.size + i, j, none⟩) (by simp) u⟩
 rw [List.getElem?_set] at hn
 by_cases hin : i = n
 ·subst hin
  have hlt := (List.getElem?_eq_some_iff.1 hi).1
  rw [if_pos rfl, if_pos hlt] at hn
  cases hn
  exact heap_setCell_same w1 _ j vs T u (h.1 i _ hi)
 ·rw [if_neg hin] at hn
  rw [heap_setCell_other w1 _ _ _ (by simp; omega)]
  exact h.1 n o hn
theorem zM.c2 {w w1 : World} {os : List Obj} (h : zM w w1 os) (i b : Nat) {vs : Array Value} {T : TypeId} {v0 v1 : Value} (hi : os[i]? = some (.cells vs T)) (hb : b = w.heap.size + i) (h0 : vs[0]? = some v0) (h1 : vs[1]? = some v1) : w1.cell? ⟨b, 0, none⟩ = some v0 ∧ w1.cell? ⟨b, 1, none⟩ = some v1 :=
  ⟨h.cell i 0 b vs T v0 hi hb h0, h.cell i 1 b vs T v1 hi hb h1⟩
theorem zM.c3 {w w1 : World} {os : List Obj} (h : zM w w1 os) (i b : Nat) {vs : Array Value} {T : TypeId} {v0 v1 v2 : Value} (hi : os[i]? = some (.cells vs T)) (hb : b = w.heap.size + i) (h0 : vs[0]? = some v0) (h1 : vs[1]? = some v1) (h2 : vs[2]? = some v2) : w1.cell? ⟨b, 0, none⟩ = some v0 ∧ w1.cell? ⟨b, 1, none⟩ = some v1 ∧ w1.cell? ⟨b, 2, none⟩ = some v2 :=
  ⟨h.cell i 0 b vs T v0 hi hb h0, h.cell i 1 b vs T v1 hi hb h1, h.cell i 2 b vs T v2 hi hb h2⟩
theorem zM.c4 {w w1 : World} {os : List Obj} (h : zM w w1 os) (i b : Nat) {vs : Array Value} {T : TypeId} {v0 v1 v2 v3 : Value} (hi : os[i]? = some (.cells vs T)) (hb : b = w.heap.size + i) (h0 : vs[0]? = some v0) (h1 : vs[1]? = some v1) (h2 : vs[2]? = some v2) (h3 : vs[3]? = some v3) : w1.cell? ⟨b, 0, none⟩ = some v0 ∧ w1.cell? ⟨b, 1, none⟩ = some v1 ∧ w1.cell? ⟨b, 2, none⟩ = some v2 ∧ w1.cell? ⟨b, 3, none⟩ = some v3 :=
  ⟨h.cell i 0 b vs T v0 hi hb h0, h.cell i 1 b vs T v1 hi hb h1, h.cell i 2 b vs T v2 hi hb h2, h.cell i 3 b vs T v3 hi hb h3⟩
theorem zM.c7 {w w1 : World} {os : List Obj} (h : zM w w1 os) (i b : Nat) {vs : Array Value} {T : TypeId} {v0 v1 v2 v3 v4 v5 v6 : Value} (hi : os[i]? = some (.cells vs T)) (hb : b = w.heap.size + i) (h0 : vs[0]? = some v0) (h1 : vs[1]? = some v1) (h2 : vs[2]? = some v2) (h3 : vs[3]? = some v3) (h4 : vs[4]? = some v4) (h5 : vs[5]? = some v5) (h6 : vs[6]? = some v6) : w1.cell? ⟨b, 0, none⟩ = some v0 ∧ w1.cell? ⟨b, 1, none⟩ = some v1 ∧ w1.cell? ⟨b, 2, none⟩ = some v2 ∧ w1.cell? ⟨b, 3, none⟩ = some v3 ∧ w1.cell? ⟨b, 4, none⟩ = some v4 ∧ w1.cell? ⟨b, 5, none⟩ = some v5 ∧ w1.cell? ⟨b, 6, none⟩ = some v6 :=
  ⟨h.cell i 0 b vs T v0 hi hb h0, h.cell i 1 b vs T v1 hi hb h1, h.cell i 2 b vs T v2 hi hb h2, h.cell i 3 b vs T v3 hi hb h3, h.cell i 4 b vs T v4 hi hb h4, h.cell i 5 b vs T v5 hi hb h5, h.cell i 6 b vs T v6 hi hb h6⟩
theorem zM.c8 {w w1 : World} {os : List Obj} (h : zM w w1 os) (i b : Nat) {vs : Array Value} {T : TypeId} {v0 v1 v2 v3 v4 v5 v6 v7 : Value} (hi : os[i]? = some (.cells vs T)) (hb : b = w.heap.size + i) (h0 : vs[0]? = some v0) (h1 : vs[1]? = some v1) (h2 : vs[2]? = some v2) (h3 : vs[3]? = some v3) (h4 : vs[4]? = some v4) (h5 : vs[5]? = some v5) (h6 : vs[6]? = some v6) (h7 : vs[7]? = some v7) : w1.cell? ⟨b, 0, none⟩ = some v0 ∧ w1.cell? ⟨b, 1, none⟩ = some v1 ∧ w1.cell? ⟨b, 2, none⟩ = some v2 ∧ w1.cell? ⟨b, 3, none⟩ = some v3 ∧ w1.cell? ⟨b, 4, none⟩ = some v4 ∧ w1.cell? ⟨b, 5, none⟩ = some v5 ∧ w1.cell? ⟨b, 6, none⟩ = some v6 ∧ w1.cell? ⟨b, 7, none⟩ = some v7 :=
  ⟨h.cell i 0 b vs T v0 hi hb h0, h.cell i 1 b vs T v1 hi hb h1, h.cell i 2 b vs T v2 hi hb h2, h.cell i 3 b vs T v3 hi hb h3, h.cell i 4 b vs T v4 hi hb h4, h.cell i 5 b vs T v5 hi hb h5, h.cell i 6 b vs T v6 hi hb h6, h.cell i 7 b vs T v7 hi hb h7⟩
theorem zM.z3 {w w1 : World} {os : List Obj} (h : zM w w1 os) (i b : Nat) {vs : Array Value} {T : TypeId} (hi : os[i]? = some (.cells vs T)) (hb : b = w.heap.size + i) : w1.frozen? ⟨b, 0, none⟩ = false ∧ w1.frozen? ⟨b, 1, none⟩ = false ∧ w1.frozen? ⟨b, 2, none⟩ = false :=
  ⟨h.frozen i 0 b vs T hi hb, h.frozen i 1 b vs T hi hb, h.frozen i 2 b vs T hi hb⟩
theorem zM.z7 {w w1 : World} {os : List Obj} (h : zM w w1 os) (i b : Nat) {vs : Array Value} {T : TypeId} (hi : os[i]? = some (.cells vs T)) (hb : b = w.heap.size + i) : w1.frozen? ⟨b, 0, none⟩ = false ∧ w1.frozen? ⟨b, 1, none⟩ = false ∧ w1.frozen? ⟨b, 2, none⟩ = false ∧ w1.frozen? ⟨b, 3, none⟩ = false ∧ w1.frozen? ⟨b, 4, none⟩ = false ∧ w1.frozen? ⟨b, 5, none⟩ = false ∧ w1.frozen? ⟨b, 6, none⟩ = false :=
  ⟨h.frozen i 0 b vs T hi hb, h.frozen i 1 b vs T hi hb, h.frozen i 2 b vs T hi hb, h.frozen i 3 b vs T hi hb, h.frozen i 4 b vs T hi hb, h.frozen i 5 b vs T hi hb, h.frozen i 6 b vs T hi hb⟩
theorem ltR {w : World} {b : Nat} {o : Obj} (h : Hid (w.heap[b]? = some o)) : b < w.heap.size := (Array.getElem?_eq_some_iff.1 h.out).1
theorem trR {a w w' : World} (h : Hid (Below a.heap.size a w)) (hb : Below w.heap.size w w') : Hid (Below a.heap.size a w') := zA (h.out.trans (hb.mono h.out.size))
theorem atR {w w' : World} {b : Nat} {o : Obj} (h : Hid (w.heap[b]? = some o)) (hb : Below w.heap.size w w') : Hid (w'.heap[b]? = some o) := zA ((hb.block _ (ltR h)).trans h.out)
abbrev wrO (z0 z1 z2 p v : Value) : Obj := .cells #[z0, z1, z2, p, v] 58 (0, 0)
def Wr (B : Nat) (w : World) (b : Nat) (z0 z1 z2 : Value) (l : List UInt8) : Prop :=
 B ≤ b ∧ ∃ p v, (p = .pointer none ∨ p = .pointer (some ⟨b, 3, none⟩)) ∧ w.heap[b]? = some (wrO z0 z1 z2 p v) ∧ w.ownsRow B 5 1 v l.length (Lib.byteCells l)
theorem zK {w : World} {b : Nat} {o : Obj} (h : w.heap[b]? = some o) : b < w.heap.size := (Array.getElem?_eq_some_iff.1 h).1
theorem Wr.lt {B b : Nat} {w : World} {z0 z1 z2 : Value} {l : List UInt8} (h : Wr B w b z0 z1 z2 l) : b < w.heap.size := by
 obtain ⟨-, p, v, -, hb, -⟩ := h
 exact zK hb
theorem ownsRow_keptB {B : Nat} {w w' : World} {v : Value} {n : Nat} {xs : List Value} (h : w.ownsRow B 5 1 v n xs) (hb : Below w.heap.size w w') : w'.ownsRow B 5 1 v n xs := by
 refine ⟨h.1, ?_⟩
 rcases h.2 with h2 | ⟨g, cap, cur, h1, h2, h3, h4⟩
 ·exact .inl h2
 ·exact .inr ⟨g, cap, cur, h1, h2, (hb.block _ (zK h3)).trans h3, h4⟩
theorem Wr.below {B b : Nat} {w w' : World} {z0 z1 z2 : Value} {l : List UInt8} (h : Wr B w b z0 z1 z2 l) (hb : Below w.heap.size w w') : Wr B w' b z0 z1 z2 l := by
 obtain ⟨h1, p, v, hp, h2, h3⟩ := h
 exact ⟨h1, p, v, hp, (hb.block _ (zK h2)).trans h2, ownsRow_keptB h3 hb⟩
theorem Wr.z {B b : Nat} {w : World} {z0 z1 z2 : Value} {l : List UInt8} (h : Wr B w b z0 z1 z2 l) :
  w.cell? ⟨b, 0, none⟩ = some z0 ∧ w.cell? ⟨b, 1, none⟩ = some z1 ∧ w.cell? ⟨b, 2, none⟩ = some z2 := by
 obtain ⟨-, p, v, -, hb, -⟩ := h
 exact ⟨(cell_of_row _ _ 0 _ _ _ hb).trans rfl, (cell_of_row _ _ 1 _ _ _ hb).trans rfl, (cell_of_row _ _ 2 _ _ _ hb).trans rfl⟩
theorem kept_below {e : TypeId} {b : Option Nat} {w w' : World} (h : Below w.heap.size w w') : Lib.OthersKept e b w w' :=
 fun k _ ho _ _ => (h.block k (zK ho)).trans ho
theorem copyCheck_used (b : Nat) (z0 z1 z2 v : Value) (w : World) (hb : w.heap[b]? = some (wrO z0 z1 z2 (.pointer (some ⟨b, 3, none⟩)) v)) :
  Calls Tryz.prog 87 #[.pointer (some ⟨b, 3, none⟩)] w fun e w' => e = .returned (.tuple #[]) ∧ w' = w := by
 obtain ⟨j, hj, -⟩ := Option.map_eq_some_iff.1 (show (Tryz.prog.info? 56).map (·.size) = some 2 by kernel_rfl)
 have h0 : w.cell? ⟨b, 3, none⟩ = some (.pointer (some ⟨b, 3, none⟩)) := (cell_of_row _ _ 3 _ _ _ hb).trans rfl
 clear hb
 go_enter Tryz.func87, Tryz.ntmps87
 go_wp2
 rw [Lib.run_neq_ptr_same w _ Tryz.underlying53 hj]
 go_wp2
 go_end0
 exact ⟨rfl, rfl⟩
theorem copyCheck_fresh (b : Nat) (z0 z1 z2 v : Value) (w : World) (hb : w.heap[b]? = some (wrO z0 z1 z2 (.pointer none) v)) :
  Calls Tryz.prog 87 #[.pointer (some ⟨b, 3, none⟩)] w fun e w' => e = .returned (.tuple #[]) ∧ w' = w.setCell ⟨b, 3, none⟩ (.pointer (some ⟨b, 3, none⟩)) := by
 obtain ⟨j, hj, hjs⟩ := Option.map_eq_some_iff.1 (show (Tryz.prog.info? 56).map (·.size) = some 2 by kernel_rfl)
 have h0 : w.cell? ⟨b, 3, none⟩ = some (.pointer none) := (cell_of_row _ _ 3 _ _ _ hb).trans rfl
 have hfz : w.frozen? ⟨b, 3, none⟩ = false := frozen_of_row _ _ 3 _ _ hb
 have hsh : w.shape? b = some (58, 5) := by simp [World.shape?, hb]
 clear hb
 go_enter Tryz.func87, Tryz.ntmps87
 go_wp2
 rw [Lib.run_to_unsafe w ⟨b, 3, none⟩ Tryz.underlying53 Tryz.underlying149 hj (by rw [hjs]; decide) hsh (show (3 : Nat) < 5 by decide)]
 simp only [Result.andThen]
 rw [Oper.upon_value]
 go_wp2
 rw [run_callFunc_extern Tryz.func112 (by kernel_rfl) (by kernel_rfl) (by kernel_rfl) (e := Extern.AbiNoEscape.same) (by kernel_rfl)]
 rw [Lib.run_noEscape]
 simp only [Result.andThen]
 rw [Oper.upon_value]
 go_wp2
 rw [Lib.run_from_unsafe w ⟨b, 3, none⟩ Tryz.underlying149 Tryz.underlying53 hj hsh (by kernel_rfl)]
 simp only [Result.andThen]
 rw [Oper.upon_value]
 go_wp2
 go_end0
 exact ⟨rfl, rfl⟩
theorem copyCheck_any (B b : Nat) (z0 z1 z2 : Value) (l : List UInt8) (w : World) (h : Wr B w b z0 z1 z2 l) :
  Calls Tryz.prog 87 #[.pointer (some ⟨b, 3, none⟩)] w fun e w' => e = .returned (.tuple #[]) ∧
   (∃ v, w'.heap[b]? = some (wrO z0 z1 z2 (.pointer (some ⟨b, 3, none⟩)) v) ∧ w'.ownsRow B 5 1 v l.length (Lib.byteCells l)) ∧ Below B w w' ∧ Lib.OthersKept 5 (some b) w w' := by
 obtain ⟨hB, p, v, hp, hb, hown⟩ := h
 rcases hp with rfl | rfl
 ·refine (copyCheck_fresh b z0 z1 z2 v w hb).mono ?_
  rintro e w' ⟨rfl, rfl⟩
  refine ⟨rfl, ⟨v, heap_setCell_same _ _ 3 _ _ _ hb, ?_⟩, (Below.refl B w).setCell (p := ⟨b, 3, none⟩) hB _, (Lib.OthersKept.refl _ _ w).setCell ⟨b, 3, none⟩ rfl _⟩
  exact hown.kept (row := some b) ⟨rfl, rfl, rfl, by simp [World.setCell], fun k _ hk => Below.heap_setCell _ _ _ _ (fun e => hk (by simp [e]))⟩ (Or.inr (Lib.ownBlock_ne hown hb (by decide)))
 ·refine (copyCheck_used b z0 z1 z2 v w hb).mono ?_
  rintro e w' ⟨rfl, rfl⟩
  exact ⟨rfl, ⟨v, hb, hown⟩, Below.refl _ _, Lib.OthersKept.refl _ _ _⟩
theorem infoB : (Tryz.prog.info? 5).map (fun i => (i.zero, i.size, i.bytes)) = some (some (.int .u8 0), 1, 1) := by kernel_rfl
theorem writeStr_any (B b : Nat) (z0 z1 z2 : Value) (l : List UInt8) (s : List UInt8) (w : World) (h : Wr B w b z0 z1 z2 l) (hBw : B ≤ w.heap.size) (hlen : l.length + s.length ≤ 1000000) :
  Calls Tryz.prog 54 #[.pointer (some ⟨b, 3, none⟩), .string ⟨s.toArray⟩] w fun e w' => e = .returned (.tuple #[.int .i64 (s.length : Int), .nilIface]) ∧
   Wr B w' b z0 z1 z2 (l ++ s) ∧ Below B w w' ∧ Lib.OthersKept 5 (some b) w w' := by
 obtain ⟨i0, hi, hz0, hz1, hz2⟩ := info_parts infoB
 have hB : B ≤ b := h.1
 have hsz : (⟨s.toArray⟩ : ByteArray).size = s.length := by simp [ByteArray.size]
 go_enter Tryz.func54, Tryz.ntmps54
 go_wp2_with fail
 refine (copyCheck_any B b z0 z1 z2 l w h).mono ?_
 rintro e w1 ⟨rfl, ⟨v, hbk, hown⟩, hb1, hk1⟩
 have c3 : w1.cell? ⟨b, 3, none⟩ = some (.pointer (some ⟨b, 3, none⟩)) := (cell_of_row _ _ 3 _ _ _ hbk).trans rfl
 have c4 : w1.cell? ⟨b, 4, none⟩ = some v := (cell_of_row _ _ 4 _ _ _ hbk).trans rfl
 go_wp2_with (at_builtin; refine Lib.wpList_append_own_string _ rfl _ _ 54 9 rfl B 5 i0 Tryz.underlying54 Tryz.underlying9 hi hz0 hz1 hz2 _ _ _ rfl hown ⟨s.toArray⟩ rfl ?c1 ?c2 ?c3 ?_)
 case c1 => rw [hsz]; unfold maxLen; omega
 case c2 => rw [hsz]; omega
 case c3 => have := hb1.size; omega
 intro v' w2 hown' hgrow _
 have hne := Lib.ownBlock_ne hown hbk (by decide)
 have hlt : b < w1.heap.size := zK hbk
 have hb2 : w2.heap[b]? = some (wrO z0 z1 z2 (.pointer (some ⟨b, 3, none⟩)) v) := by
  rw [hgrow.block b hlt (fun e => hne e.symm)]; exact hbk
 have f4 : w2.frozen? ⟨b, 4, none⟩ = false := frozen_of_row _ _ 4 _ _ hb2
 have d4 : w2.cell? ⟨b, 4, none⟩ = some v := (cell_of_row _ _ 4 _ _ _ hb2).trans rfl
 have hcs : Lib.byteCells l ++ Lib.strCells ⟨s.toArray⟩ = Lib.byteCells (l ++ s) := by rw [Lib.strCells_eq, Lib.byteCells_append]
 rw [hcs, ← List.length_append] at hown'
 have hne' := Lib.ownBlock_ne hown' hb2 (by decide)
 obtain ⟨ao, n', cap, rfl⟩ : ∃ ao n' cap, v' = .slice ao n' cap := by
  rcases hown'.2 with ⟨hv, _⟩ | ⟨g, cap, cur, hv, _⟩
  ·exact ⟨_, _, _, hv⟩
  ·exact ⟨_, _, _, hv⟩
 have hH := zA (And.intro hown' hcs)
 clear hown' hcs
 go_wp2
 go_ret2
 refine ⟨by simp, ⟨hB, _, _, .inr rfl, heap_setCell_same _ _ 4 _ _ _ hb2, ?_⟩, ?_, ?_⟩
 ·exact hH.out.1.kept (row := some b) ⟨rfl, rfl, rfl, by simp [World.setCell], fun k _ hk => Below.heap_setCell _ _ _ _ (fun e => hk (by simp [e]))⟩ (Or.inr hne')
 ·exact (hb1.grown hgrow (by have := hb1.size; omega) (fun k hk => (hown.lt k hk).1)).setCell (p := ⟨b, 4, none⟩) hB _
 ·exact (hk1.grown hgrow (Lib.ownsRowF_kind (World.ownsRowF_of hown))).setCell ⟨b, 4, none⟩ rfl _
theorem string_any (B b : Nat) (z0 z1 z2 : Value) (l : List UInt8) (w : World) (h : Wr B w b z0 z1 z2 l) (h0 : l ≠ []) :
  Calls Tryz.prog 18 #[.pointer (some ⟨b, 3, none⟩)] w fun e w' => e = .returned (.string ⟨l.toArray⟩) ∧ Below B w w' := by
 obtain ⟨hB, p, v, -, hbk, hown⟩ := h
 have hl0 : l.length ≠ 0 := by simpa using h0
 obtain ⟨g, cap, cur, rfl, hbg, hg, hnc, hcm, hcs, htake⟩ : ∃ g cap cur, v = .slice (some ⟨g, 0, none⟩) l.length cap ∧ B ≤ g ∧ w.heap[g]? = some (.cells cur 5 (0, 0)) ∧ l.length ≤ cap ∧ cap ≤ maxLen ∧ cur.size = cap * 1 ∧ cur.toList.take (l.length * 1) = Lib.byteCells l := by
  rcases hown.2 with ⟨_, hz⟩ | ⟨g, cap, cur, hv, r⟩
  ·exact absurd hz hl0
  ·exact ⟨g, cap, cur, hv, r⟩
 have c1 : w.cell? ⟨b, 4, none⟩ = some (.slice (some ⟨g, 0, none⟩) l.length cap) := (cell_of_row _ _ 4 _ _ _ hbk).trans rfl
 have hSD : ∀ W, (Builtin.unsafeSliceData_ #[54] 97 #[.slice (some ⟨g, 0, none⟩) l.length cap]).run Tryz.prog W = .ok (.pointer (some ⟨g, 0, none⟩)) W :=
  fun W => Lib.run_unsafeSliceData_row _ _ _ _ _ _ (by omega)
 have hUS : (Builtin.unsafeString_ #[97, 3] 9 #[.pointer (some ⟨g, 0, none⟩), .int .i64 l.length]).run Tryz.prog w.drew = .ok (.string ⟨l.toArray⟩) (w.drew.freeze ⟨g, 0, none⟩ l.length) := by
  refine Lib.run_unsafeString_row w.drew _ _ _ 5 Tryz.underlying97 (by kernel_rfl) g cur.size (by have hg' : w.drew.heap[g]? = some (.cells cur 5 (0, 0)) := hg; simp [World.shape?, hg']) l h0 (by omega) (by unfold maxLen at hcm; omega) ?_
  intro j x hx
  exact hown.cells (g := g) rfl j (.int .u8 x.toNat) (by simp [Lib.byteCells, hx])
 go_enter Tryz.func18, Tryz.ntmps18
 go_wp2
 go_region
 all_goals (go_wp2; go_ret; exact ⟨rfl, Lib.below_freeze (Below.drew (Below.refl B w)) (p := ⟨g, 0, none⟩) hbg _⟩)
#print axioms string_any
theorem wput_any (B b : Nat) (z0 z1 z2 : Value) (l : List UInt8) (X : List (List UInt8)) (a : Addr) (o : Obj) (n c : Nat) (w : World) (h : Wr B w b z0 z1 z2 l) (hBw : B ≤ w.heap.size)
  (hn : X.length = n) (hn9 : n ≤ 9) (hS : ∀ (j : Nat) (t : List UInt8), X[j]? = some t → w.cell? (a.add j) = some (.string ⟨t.toArray⟩)) (hO : w.heap[a.block]? = some o) (ho : ∀ c fz, o ≠ .cells c 5 fz) (hab : a.block ≠ b)
  (hlen : l.length + X.flatten.length ≤ 1000000) :
  Calls Tryz.prog 20 #[.pointer (some ⟨b, 0, none⟩), .slice (some a) n c] w fun e w' => e = .returned (.tuple #[]) ∧
   Wr B w' b z0 z1 z2 (l ++ X.flatten) ∧ Below B w w' ∧ Lib.OthersKept 5 (some b) w w' := by
 have HW := zA h
 have HN := zA hn
 have HS := zA hS
 have HO := zA (And.intro hO ho)
 have HL := zA hlen
 clear h hn hS hO ho hlen
 go_enter Tryz.func20, Tryz.ntmps20
 go_wp2_with fail
 go_loopw [5, 8] (fun _ i wr => ∃ k : Nat, k ≤ n ∧ i = .int .i64 (k : Int) ∧ Hid (Wr B wr b z0 z1 z2 (l ++ (X.take k).flatten)) ∧ Hid (Below B w wr) ∧ Hid (Lib.OthersKept 5 (some b) w wr))
  (fun _ i _ => n - (intOf i).toNat)
 case atStart => exact ⟨0, by omega, rfl, by simpa using HW, zA (Below.refl _ _), zA (Lib.OthersKept.refl _ _ _)⟩
 case round =>
  obtain ⟨k, hk, rfl, hw, hb, hok⟩ := hrel
  by_cases hlt : k < n
  ·have hkl : k < X.length := by have := HN.out; omega
   have hB2 : B ≤ wr.heap.size := by have := hb.out.size; omega
   have ho' := hok.out _ _ HO.out.1 (fun e => hab (Option.some.inj e)) HO.out.2
   have eb : (a.add k).block = a.block := by unfold Addr.add; split <;> rfl
   have eh : wr.heap[(a.add k).block]? = w.heap[(a.add k).block]? := by rw [eb]; exact ho'.trans HO.out.1.symm
   have hc : wr.cell? (a.add k) = some (.string ⟨(X[k]).toArray⟩) := (World.cell?_of_block eh).trans (HS.out k X[k] (List.getElem?_eq_getElem hkl))
   clear eb eh
   have hsum : (l ++ (X.take k).flatten).length + (X[k]).length ≤ 1000000 := by
    have h1 := HL.out
    have h2 : X.flatten = (X.take k).flatten ++ (X[k] ++ (X.drop (k + 1)).flatten) := by
     rw [← List.flatten_cons, ← List.flatten_append, ← List.drop_eq_getElem_cons hkl, List.take_append_drop]
    rw [h2] at h1
    simp only [List.length_append] at h1 ⊢
    omega
   have htk : (X.take (k + 1)).flatten = (X.take k).flatten ++ X[k] := by rw [List.take_succ_eq_append_getElem hkl, List.flatten_append]; simp
   have HT := zA htk
   clear htk ho'
   generalize hx : X[k] = x at *
   clear hx
   generalize hy : l ++ (X.take k).flatten = y at *
   have HY := zA hy
   clear hy
   go_wp2_with fail
   refine (writeStr_any B b z0 z1 z2 y x wr hw.out hB2 hsum).mono ?_
   rintro e w1 ⟨rfl, h1, h2, h3⟩
   have H1 := zA h1
   have H2 := zA (hb.out.trans h2)
   have H3 := zA (hok.out.trans h3)
   clear h1 h2 h3
   go_wp2_with fail
   go_roundw
   case rel => exact ⟨k + 1, by omega, by go_num, by rw [HT.out, ← List.append_assoc, HY.out]; exact H1, H2, H3⟩
   case measure => simp [intOf]; omega
  ·have hke : X.take k = X := List.take_of_length_le (by have := HN.out; omega)
   rw [hke] at hw
   go_wp2_with fail
   go_end0
   exact ⟨rfl, hw.out, hb.out, hok.out⟩
#print axioms wput_any
end
section
open Go.Shelf
def itoaRen : Go.Shelf.Ren := ⟨fun | 171 => 50 | 243 => 83 | 246 => 104 | 283 => 119 | 284 => 120 | 285 => 121 | 286 => 122 | 129 => 134 | 317 => 133 | 318 => 135 | 319 => 136 | 320 => 137 | 337 => 140 | 338 => 141 | n => n, fun | 3 => 3 | 9 => 9 | 2 => 2 | 4 => 4 | 171 => 154 | 0 => 0 | 53 => 123 | 37 => 54 | 5 => 5 | 173 => 157 | 212 => 167 | 51 => 168 | 20 => 20 | 213 => 169 | 46 => 138 | 232 => 172 | 233 => 173 | n => n, fun | 17 => 0 | 18 => 1 | 19 => 2 | n => n⟩
theorem itoaLay : Go.Proofs.LaysM.n171 Tryz.prog itoaRen := {
 mixed := by kernel_rfl
 f129 := Tryz.func134.trans (congrArg some (by kernel_rfl))
 f171 := Tryz.func50.trans (congrArg some (by kernel_rfl))
 f243 := Tryz.func83.trans (congrArg some (by kernel_rfl))
 f246 := Tryz.func104.trans (congrArg some (by kernel_rfl))
 f283 := Tryz.func119.trans (congrArg some (by kernel_rfl))
 f284 := Tryz.func120.trans (congrArg some (by kernel_rfl))
 f285 := Tryz.func121.trans (congrArg some (by kernel_rfl))
 f286 := Tryz.func122.trans (congrArg some (by kernel_rfl))
 f317 := Tryz.func133.trans (congrArg some (by kernel_rfl))
 f318 := Tryz.func135.trans (congrArg some (by kernel_rfl))
 f319 := Tryz.func136.trans (congrArg some (by kernel_rfl))
 f320 := Tryz.func137.trans (congrArg some (by kernel_rfl))
 f337 := Tryz.func140.trans (congrArg some (by kernel_rfl))
 f338 := Tryz.func141.trans (congrArg some (by kernel_rfl))
 t0 := Tryz.underlying0
 a0 := Tryz.isAgg0
 z0 := Tryz.sizeOf0
 v0 := Tryz.zeroValue0
 t2 := Tryz.underlying2
 a2 := Tryz.isAgg2
 z2 := Tryz.sizeOf2
 v2 := Tryz.zeroValue2
 t3 := Tryz.underlying3
 a3 := Tryz.isAgg3
 z3 := Tryz.sizeOf3
 v3 := Tryz.zeroValue3
 t4 := Tryz.underlying4
 a4 := Tryz.isAgg4
 z4 := Tryz.sizeOf4
 v4 := Tryz.zeroValue4
 t5 := Tryz.underlying5
 a5 := Tryz.isAgg5
 z5 := Tryz.sizeOf5
 v5 := Tryz.zeroValue5
 t9 := Tryz.underlying9
 a9 := Tryz.isAgg9
 z9 := Tryz.sizeOf9
 v9 := Tryz.zeroValue9
 t20 := Tryz.underlying20
 a20 := Tryz.isAgg20
 z20 := Tryz.sizeOf20
 v20 := Tryz.zeroValue20
 t37 := Tryz.underlying54
 a37 := Tryz.isAgg54
 z37 := Tryz.sizeOf54
 v37 := Tryz.zeroValue54
 t46 := Tryz.underlying138
 a46 := Tryz.isAgg138
 z46 := Tryz.sizeOf138
 v46 := Tryz.zeroValue138
 t51 := Tryz.underlying168
 a51 := Tryz.isAgg168
 z51 := Tryz.sizeOf168
 v51 := Tryz.zeroValue168
 t53 := Tryz.underlying123
 a53 := Tryz.isAgg123
 z53 := Tryz.sizeOf123
 v53 := Tryz.zeroValue123
 t171 := Tryz.underlying154
 a171 := Tryz.isAgg154
 z171 := Tryz.sizeOf154
 v171 := Tryz.zeroValue154
 t173 := Tryz.underlying157
 a173 := Tryz.isAgg157
 z173 := Tryz.sizeOf157
 v173 := Tryz.zeroValue157
 t212 := Tryz.underlying167
 a212 := Tryz.isAgg167
 z212 := Tryz.sizeOf167
 v212 := Tryz.zeroValue167
 t213 := Tryz.underlying169
 a213 := Tryz.isAgg169
 z213 := Tryz.sizeOf169
 t232 := Tryz.underlying172
 a232 := Tryz.isAgg172
 z232 := Tryz.sizeOf172
 v232 := Tryz.zeroValue172
 t233 := Tryz.underlying173
 a233 := Tryz.isAgg173
 z233 := Tryz.sizeOf173
 v233 := Tryz.zeroValue173
 g17 := by kernel_rfl
 g18 := by kernel_rfl
 g19 := by kernel_rfl
 i0 := by kernel_rfl
 i2 := by kernel_rfl
 i3 := by kernel_rfl
 i4 := by kernel_rfl
 i5 := by kernel_rfl
 i9 := by kernel_rfl
 i20 := by kernel_rfl
 i37 := by kernel_rfl
 i46 := by kernel_rfl
 i51 := by kernel_rfl
 i53 := by kernel_rfl
 i171 := by kernel_rfl
 i173 := by kernel_rfl
 i212 := by kernel_rfl
 i232 := by kernel_rfl
 i233 := by kernel_rfl
 m17 := by kernel_rfl
 m18 := by kernel_rfl
 m19 := by kernel_rfl }
open Go.RowKit
def itD (n : Int) : List UInt8 := Lib.decDigits n.toNat
def ItoaOk (a : World) : Prop := ∀ w, Below a.heap.size a w → ∀ n : Int, 0 ≤ n → n ≤ 9999 →
 Calls Tryz.prog 50 #[.int .i64 n] w fun e w' => e = .returned (.string ⟨(itD n).toArray⟩) ∧ Below w.heap.size w w'
theorem ItoaOk.on {a b : World} (h : ItoaOk a) (hb : Below a.heap.size a b) : ItoaOk b :=
 fun w hw n h0 h1 => h w (hb.trans (hw.mono hb.size)) n h0 h1
theorem tab_below {P : Program} {a w : World} {nm : String} {k : IntKind} {zs : List Int} (h : Lib.TabIs P a nm k zs) (hb : Below a.heap.size a w) : Lib.TabIs P w nm k zs := by
 unfold Lib.TabIs World.var? at *
 rw [Option.bind_eq_some_iff] at *
 obtain ⟨g, hg, h⟩ := h
 refine ⟨g, hg, ?_⟩
 have hlt : g < a.heap.size := by
  rcases Nat.lt_or_ge g a.heap.size with h' | h'
  ·exact h'
  ·rw [Array.getElem?_eq_none h'] at h; cases h
 rw [hb.block _ hlt]
 exact h
theorem grow_below (w : World) (k : Nat) (os : Array Obj) : Below w.heap.size w (Sort.grow (w.drewN k) os) := by
 have hd : ∀ (k : Nat) (w : World), (w.drewN k).heap = w.heap ∧ (w.drewN k).os = w.os ∧ (w.drewN k).tape = w.tape ∧ (w.drewN k).output = w.output := by
  intro k
  induction k with
  | zero => intro w; exact ⟨rfl, rfl, rfl, rfl⟩
  | succ k ih => intro w; exact ih w.drew
 obtain ⟨h1, h2, h3, h4⟩ := hd k w
 refine ⟨h2, h3, h4, ?_, fun b hb => ?_⟩
 ·show _ ≤ ((w.drewN k).heap ++ os).size
  rw [h1, Array.size_append]; omega
 ·show ((w.drewN k).heap ++ os)[b]? = _
  rw [h1, Array.getElem?_append_left hb]
theorem itoaOk_of (a : World) (h : Lib.TabIs Tryz.prog a (Rows.reportTellsRow.named.headD "") .u64 Lib.pow10Tab) : ItoaOk a := by
 intro w hw n h0 h1
 refine (Any.strconv_Itoa itoaLay n (by omega) (by omega) w (tab_below h hw)).mono ?_
 rintro e w' ⟨rfl, k, os, rfl⟩
 refine ⟨?_, grow_below w k os⟩
 unfold itD
 have e : Lib.itoa n = Lib.decDigits n.toNat := by unfold Lib.itoa; rw [if_neg (by omega)]
 rw [e]
#print axioms itoaOk_of
end
section
open Go.RowKit
abbrev tp (a g s m z : Int) : Value := .agg #[.int .i64 a, .int .i64 g, .int .i64 s, .int .i64 m, .int .i64 z]
def isZ (n : Int) : Bool := n == 1 || n == 2 || n == 4 || n == 8
def chkP (a g s m z : Int) : Int :=
 if (wi a 1 9999 && wi g 0 2 && wi s 1 99 && wi m 0 9999) = false then 3 else if isZ z = false then 9 else 0
def place (f t z m zone : Int) : Int := if wi m f t = false then 8 else if z / zone % 2 = 0 then 9 else 0
def judge (k f t z r last rides m zone : Int) : Int × Int :=
 if place f t z m zone ≠ 0 then (3, place f t z m zone)
 else if 0 ≤ last ∧ last ≤ m ∧ m < last + 60 then (2, 0)
 else if (k = 1 ∧ 0 < rides) ∨ (k = 3 ∧ r ≤ rides) then (3, 10) else (1, 0)
structure TP where
 a : Int
 g : Int
 s : Int
 m : Int
 z : Int
structure Tap5 (w : World) (b : Addr) (p : TP) : Prop where
 c0 : w.cell? b = some (.int .i64 p.a)
 c1 : w.cell? ⟨b.block, b.off + 1, none⟩ = some (.int .i64 p.g)
 c2 : w.cell? ⟨b.block, b.off + 2, none⟩ = some (.int .i64 p.s)
 c3 : w.cell? ⟨b.block, b.off + 3, none⟩ = some (.int .i64 p.m)
 c4 : w.cell? ⟨b.block, b.off + 4, none⟩ = some (.int .i64 p.z)
theorem Tap5.lt {w : World} {b : Addr} {p : TP} (h : Tap5 w b p) : b.block < w.heap.size := World.block_lt_of_cell? w b h.c0
theorem Tap5.below {B : Nat} {w w' : World} {b : Addr} {p : TP} (h : Tap5 w b p) (hb : Below B w w') (hlt : b.block < B) : Tap5 w' b p :=
 ⟨by rw [hb.cell hlt]; exact h.c0, by rw [hb.cell (p := ⟨b.block, b.off + 1, none⟩) hlt]; exact h.c1, by rw [hb.cell (p := ⟨b.block, b.off + 2, none⟩) hlt]; exact h.c2,
  by rw [hb.cell (p := ⟨b.block, b.off + 3, none⟩) hlt]; exact h.c3, by rw [hb.cell (p := ⟨b.block, b.off + 4, none⟩) hlt]; exact h.c4⟩
def zD (w : World) (o : Option Addr) (L : List TP) : Prop := ∀ i p, L[i]? = some p → ∃ b, o = some b ∧ Tap5 w (b.add (i * 5)) p
theorem zD.below {w w' : World} {o : Option Addr} {L : List TP} (h : zD w o L) (hb : Below w.heap.size w w') : zD w' o L :=
 fun i p hi => have ⟨b, e, h5⟩ := h i p hi; ⟨b, e, h5.below hb h5.lt⟩
def zS (p : TP) : Int := chkP p.a p.g p.s p.m p.z
def misT (i : Int) (p : TP) : Int := if p.a = i then 0 else 4
def zB : List Int → Int
 | [] => 0
 | e :: l => if e = 0 then zB l else e
theorem firstE_snoc (l : List Int) (x : Int) : zB (l ++ [x]) = if zB l = 0 then x else zB l := by
 induction l with
 | nil => by_cases h : x = 0 <;> simp [zB, h]
 | cons e l ih =>
  by_cases h : e = 0
  ·simp [zB, h, ih]
  ·simp [zB, h]
theorem firstE_stop (l k : List Int) (h : zB l ≠ 0) : zB (l ++ k) = zB l := by
 induction l with
 | nil => exact absurd rfl h
 | cons e l ih =>
  by_cases he : e = 0
  ·simp [zB, he] at h ⊢
   exact ih h
  ·simp [zB, he]
theorem firstE_append (l k : List Int) : zB (l ++ k) = zB (zB l :: k) := by
 by_cases h : zB l = 0
 ·rw [h]
  induction l with
  | nil => simp [zB]
  | cons e l ih =>
   by_cases he : e = 0
   ·simp [zB, he] at h ih ⊢
    exact ih h
   ·simp [zB, he] at h
 ·rw [firstE_stop _ _ h]
  simp [zB, h]
def errJ (i k f t z r rides : Int) (p : TP) (L : List TP) : Int :=
 zB ([chk i k f t z r, zS p, if wi rides 0 60 = true then 0 else 3] ++ L.map zS ++ [misT i p] ++ L.map (misT i))
structure TK where
 i : Int
 k : Int
 f : Int
 t : Int
 z : Int
 r : Int
structure Tik6 (w : World) (b : Addr) (p : TK) : Prop where
 c0 : w.cell? b = some (.int .i64 p.i)
 c1 : w.cell? ⟨b.block, b.off + 1, none⟩ = some (.int .i64 p.k)
 c2 : w.cell? ⟨b.block, b.off + 2, none⟩ = some (.int .i64 p.f)
 c3 : w.cell? ⟨b.block, b.off + 3, none⟩ = some (.int .i64 p.t)
 c4 : w.cell? ⟨b.block, b.off + 4, none⟩ = some (.int .i64 p.z)
 c5 : w.cell? ⟨b.block, b.off + 5, none⟩ = some (.int .i64 p.r)
theorem Tik6.lt {w : World} {b : Addr} {p : TK} (h : Tik6 w b p) : b.block < w.heap.size := World.block_lt_of_cell? w b h.c0
theorem Tik6.below {B : Nat} {w w' : World} {b : Addr} {p : TK} (h : Tik6 w b p) (hb : Below B w w') (hlt : b.block < B) : Tik6 w' b p :=
 ⟨by rw [hb.cell hlt]; exact h.c0, by rw [hb.cell (p := ⟨b.block, b.off + 1, none⟩) hlt]; exact h.c1, by rw [hb.cell (p := ⟨b.block, b.off + 2, none⟩) hlt]; exact h.c2,
  by rw [hb.cell (p := ⟨b.block, b.off + 3, none⟩) hlt]; exact h.c3, by rw [hb.cell (p := ⟨b.block, b.off + 4, none⟩) hlt]; exact h.c4,
  by rw [hb.cell (p := ⟨b.block, b.off + 5, none⟩) hlt]; exact h.c5⟩
def zH (w : World) (o : Option Addr) (L : List TK) : Prop := ∀ i p, L[i]? = some p → ∃ b, o = some b ∧ Tik6 w (b.add (i * 6)) p
theorem zH.below {w w' : World} {o : Option Addr} {L : List TK} (h : zH w o L) (hb : Below w.heap.size w w') : zH w' o L :=
 fun i p hi => have ⟨b, e, h5⟩ := h i p hi; ⟨b, e, h5.below hb h5.lt⟩
def idxT (L : List TK) (id : Int) : Int := match L.findIdx? (fun p => p.i == id) with
 | some n => n
 | none => -1
theorem idxT_some {L : List TK} {id : Int} {q : Nat} {p : TK} (h : L[q]? = some p) (hp : p.i = id) (hno : ∀ j, j < q → ∀ p, L[j]? = some p → p.i ≠ id) : idxT L id = q := by
 obtain ⟨hq, he⟩ := List.getElem?_eq_some_iff.1 h
 have : L.findIdx? (fun p => p.i == id) = some q := by
  rw [List.findIdx?_eq_some_iff_getElem]
  refine ⟨hq, by rw [he]; simpa using hp, fun j hj => ?_⟩
  have := hno j hj L[j] (by simp)
  simpa using this
 rw [idxT, this]
theorem idxT_none {L : List TK} {id : Int} (hno : ∀ (j : Nat) (p : TK), L[j]? = some p → p.i ≠ id) : idxT L id = -1 := by
 have : L.findIdx? (fun p => p.i == id) = none := by
  rw [List.findIdx?_eq_none_iff]
  intro p hp
  obtain ⟨j, hj⟩ := List.mem_iff_getElem?.1 hp
  simpa using hno j p hj
 rw [idxT, this]
def yE (L : List TP) (p : TP) : Bool := L.any fun x => x.g == p.g && x.s == p.s
def zF (w : World) (o : Option Addr) (L : List Int) : Prop := ∀ (i : Nat) (v : Int), L[i]? = some v → ∃ b, o = some b ∧ w.cell? (b.add i) = some (.int .i64 v)
theorem zF.below {w w' : World} {o : Option Addr} {L : List Int} (h : zF w o L) (hb : Below w.heap.size w w') : zF w' o L :=
 fun i v hi => have ⟨b, e, h1⟩ := h i v hi; ⟨b, e, by rw [hb.cell (World.block_lt_of_cell? w _ h1)]; exact h1⟩
abbrev lg (o1 o2 o3 : Option Addr) (n1 c1 n2 c2 n3 c3 : Nat) : Value := .agg #[.slice o1 n1 c1, .slice o2 n2 c2, .slice o3 n3 c3]
def yA (L : List (TP × Int)) (id : Int) : Int × Int := L.foldl (fun s x => if x.1.a = id ∧ x.2 = 1 then (s.1 + 1, x.1.m) else s) (0, -1)
theorem many_snoc (L : List (TP × Int)) (x : TP × Int) (id : Int) : yA (L ++ [x]) id = if x.1.a = id ∧ x.2 = 1 then ((yA L id).1 + 1, x.1.m) else yA L id := by
 simp [yA, List.foldl_append]
theorem many_from (L : List (TP × Int)) (id : Int) : ∀ s : Int × Int, s.1 ≤ (L.foldl (fun s x => if x.1.a = id ∧ x.2 = 1 then (s.1 + 1, x.1.m) else s) s).1 ∧
  (L.foldl (fun s x => if x.1.a = id ∧ x.2 = 1 then (s.1 + 1, x.1.m) else s) s).1 ≤ s.1 + L.length := by
 induction L with
 | nil => intro s; simp
 | cons x L ih =>
  intro s
  rw [List.foldl_cons, List.length_cons]
  split
  ·have h := ih (s.1 + 1, x.1.m)
   simp only at h
   omega
  ·have h := ih s
   omega
theorem many_bound (L : List (TP × Int)) (id : Int) : 0 ≤ (yA L id).1 ∧ (yA L id).1 ≤ L.length := by
 have h := many_from L id (0, -1)
 simp only [Int.zero_add] at h
 exact h
theorem manyOf_any (o1 o2 o3 : Option Addr) (n1 c1 c2 c3 : Nat) (L : List TP) (V : List Int) (id : Int) (n : Nat) (w : World) (hL : zD w o2 L) (hV : zF w o3 V)
  (hn : n ≤ L.length) (hn' : n ≤ V.length) (hlen : L.length ≤ 9223372036854775807) :
  Calls Tryz.prog 27 #[lg o1 o2 o3 n1 c1 L.length c2 V.length c3, .int .i64 id, .int .i64 n] w fun e w' =>
   e = .returned (.tuple #[.int .i64 (yA ((L.zip V).take n) id).1, .int .i64 (yA ((L.zip V).take n) id).2]) ∧ Below w.heap.size w w' := by
 have HL := zA hL
 have HV := zA hV
 clear hL hV
 go_enter Tryz.func27, Tryz.ntmps27
 go_wp2
 go_loopw [8, 9, 10] (fun x y i wr => ∃ (q : Nat) (c l : Int), q ≤ n ∧ i = .int .i64 q ∧ x = .int .i64 c ∧ y = .int .i64 l ∧ 0 ≤ c ∧ c ≤ q ∧ Hid (yA ((L.zip V).take q) id = (c, l)) ∧ Below (w.heap.size + 1) (w.alloc (.cells #[.slice o1 n1 c1, .slice o2 L.length c2, .slice o3 V.length c3] 26)) wr) (fun _ _ i _ => n - (intOf i).toNat)
 case atStart => exact ⟨0, 0, -1, Nat.zero_le _, rfl, rfl, rfl, by omega, by omega, rfl, Below.refl _ _⟩
 case round =>
  obtain ⟨q, c, l, hq, rfl, rfl, rfl, hc0, hcq, hM, hbr⟩ := hrel
  have d1 : wr.cell? ⟨w.heap.size, 1, none⟩ = some (.slice o2 L.length c2) := by rw [hbr.cell (p := ⟨w.heap.size, 1, none⟩) (show w.heap.size < w.heap.size + 1 by omega)]; simp [go_sem]
  have d2 : wr.cell? ⟨w.heap.size, 2, none⟩ = some (.slice o3 V.length c3) := by rw [hbr.cell (p := ⟨w.heap.size, 2, none⟩) (show w.heap.size < w.heap.size + 1 by omega)]; simp [go_sem]
  have HB := zA (show Below w.heap.size w wr from ((Below.refl _ _).alloc (Nat.le_refl _) _).trans (hbr.mono (by omega)))
  by_cases hlt : q < n
  ·have hqL : q < L.length := by omega
   have hqV : q < V.length := by omega
   obtain ⟨p, hp⟩ : ∃ p, L[q]? = some p := ⟨L[q], by simp [hqL]⟩
   obtain ⟨v, hv⟩ : ∃ v, V[q]? = some v := ⟨V[q], by simp [hqV]⟩
   have HS : Hid (yA ((L.zip V).take (q + 1)) id = if p.a = id ∧ v = 1 then (c + 1, p.m) else (c, l)) := by
    show _ = _
    have hz : (L.zip V)[q]? = some (p, v) := by rw [List.getElem?_zip_eq_some]; exact ⟨hp, hv⟩
    rw [List.take_add_one, hz, Option.toList_some, many_snoc, hM.out]
   obtain ⟨A, rfl, e0, _, _, e3, _⟩ := (HL.out.below HB.out) q p hp
   obtain ⟨A', rfl, f0⟩ := (HV.out.below HB.out) q v hv
   clear hp hv hM
   have hpick : ((p.a == id) = true ∧ (v == 1) = true ∧ Hid (yA ((L.zip V).take (q + 1)) id = (c + 1, p.m))) ∨ ((p.a == id) = true ∧ (v == 1) = false ∧ Hid (yA ((L.zip V).take (q + 1)) id = (c, l))) ∨
     ((p.a == id) = false ∧ Hid (yA ((L.zip V).take (q + 1)) id = (c, l))) := by
    have h := HS.out
    by_cases h1 : p.a = id
    ·by_cases h2 : v = 1
     ·rw [if_pos ⟨h1, h2⟩] at h
      exact Or.inl ⟨by simpa using h1, by simpa using h2, h⟩
     ·rw [if_neg (fun x => h2 x.2)] at h
      exact Or.inr (Or.inl ⟨by simpa using h1, by simpa using h2, h⟩)
    ·rw [if_neg (fun x => h1 x.1)] at h
     exact Or.inr (Or.inr ⟨by simpa using h1, h⟩)
   rcases hpick with ⟨h1, h2, h3⟩ | ⟨h1, h2, h3⟩ | ⟨h1, h3⟩
   ·go_wp2_with fail
    exact ⟨⟨q + 1, c + 1, _, by omega, by simp, rfl, rfl, by omega, by omega, h3, hbr⟩, by simp [intOf]; omega⟩
   all_goals
    go_wp2_with fail
    exact ⟨⟨q + 1, c, l, by omega, by simp, rfl, rfl, by omega, by omega, h3, hbr⟩, by simp [intOf]; omega⟩
  ·obtain rfl : q = n := by omega
   go_wp2_with fail
   go_ret2
   exact ⟨by rw [hM.out]; rfl, HB.out⟩
def tk0 : TK := ⟨0, 0, 0, 0, 0, 0⟩
def tp0 : TP := ⟨0, 0, 0, 0, 0⟩
def chkK (p : TK) : Int := chk p.i p.k p.f p.t p.z p.r
def errK (T : List TK) (i : Nat) : Int := zB [chkK (T.getD i tk0), if 0 < i ∧ (T.getD i tk0).i ≤ (T.getD (i - 1) tk0).i then 4 else 0]
def verd (T : List TK) (P : List TP) (V : List Int) (i : Nat) (p : TP) : Int × Int :=
 judge (T.getD (idxT T p.a).toNat tk0).k (T.getD (idxT T p.a).toNat tk0).f (T.getD (idxT T p.a).toNat tk0).t (T.getD (idxT T p.a).toNat tk0).z (T.getD (idxT T p.a).toNat tk0).r
  (yA ((P.zip V).take i) p.a).2 (yA ((P.zip V).take i) p.a).1 p.m p.z
def errP (T : List TK) (P : List TP) (V : List Int) (i : Nat) : Int :=
 zB [zS (P.getD i tp0), if idxT T (P.getD i tp0).a < 0 then 5 else 0, if yE (P.take i) (P.getD i tp0) = true then 6 else 0, if wi (V.getD i 0) 1 2 = true then 0 else 7,
  if 0 < i ∧ (P.getD i tp0).m < (P.getD (i - 1) tp0).m then 4 else 0, if (verd T P V i (P.getD i tp0)).1 = V.getD i 0 then 0 else 4]
def zQ (T : List TK) (P : List TP) (V : List Int) : Int :=
 if 12 < T.length ∨ 60 < P.length ∨ P.length ≠ V.length then 2
 else zB ((List.range T.length).map (errK T) ++ (List.range P.length).map (errP T P V))
theorem firstE_all (f : Nat → Int) (n : Nat) (k : List Int) (h : ∀ j, j < n → f j = 0) : zB ((List.range n).map f ++ k) = zB k := by
 rw [firstE_append]
 have : zB ((List.range n).map f) = 0 := by
  induction n with
  | zero => rfl
  | succ n ih =>
   rw [List.range_succ, List.map_append, List.map_singleton, firstE_snoc, ih (fun j hj => h j (by omega)), if_pos rfl]
   exact h n (by omega)
 simp [this, zB]
theorem firstE_at (f : Nat → Int) (n q : Nat) (k : List Int) (h : ∀ j, j < q → f j = 0) (hq : q < n) (hne : f q ≠ 0) : zB ((List.range n).map f ++ k) = f q := by
 obtain ⟨m, rfl⟩ : ∃ m, n = q + 1 + m := ⟨n - (q + 1), by omega⟩
 rw [List.range_add, List.map_append, List.append_assoc, List.range_succ, List.map_append, List.append_assoc, firstE_all f q _ h]
 simp [zB, hne]
theorem chkL_many {T : List TK} {P : List TP} {V : List Int} (h : 12 < T.length ∨ 60 < P.length ∨ P.length ≠ V.length) : zQ T P V = 2 := if_pos h
theorem chkL_ok {T : List TK} {P : List TP} {V : List Int} (h : ¬ (12 < T.length ∨ 60 < P.length ∨ P.length ≠ V.length)) (h1 : ∀ j, j < T.length → errK T j = 0) (h2 : ∀ j, j < P.length → errP T P V j = 0) : zQ T P V = 0 := by
 rw [zQ, if_neg h, firstE_all _ _ _ h1, ← List.append_nil ((List.range P.length).map _), firstE_all _ _ _ h2]; rfl
theorem errK_cases {T : List TK} {q : Nat} {p : TK} (hp : T[q]? = some p) : (chkK p ≠ 0 ∧ errK T q = chkK p) ∨ (chkK p = 0 ∧ 0 < q ∧ p.i ≤ (T.getD (q - 1) tk0).i ∧ errK T q = 4) ∨ (chkK p = 0 ∧ ¬ (0 < q ∧ p.i ≤ (T.getD (q - 1) tk0).i) ∧ errK T q = 0) := by
 have hg : T.getD q tk0 = p := by simp [List.getD, hp]
 unfold errK
 rw [hg]
 by_cases h : chkK p = 0
 ·by_cases h2 : 0 < q ∧ p.i ≤ (T.getD (q - 1) tk0).i
  ·exact Or.inr (Or.inl ⟨h, h2.1, h2.2, by simp only [zB, h, if_true]; rw [if_pos h2]; rfl⟩)
  ·exact Or.inr (Or.inr ⟨h, h2, by simp only [zB, h, if_true]; rw [if_neg h2]; rfl⟩)
 ·exact Or.inl ⟨h, by simp [zB, h]⟩
theorem isNaN_any (a : Int) (w : World) : Calls Tryz.prog 118 #[.int .i64 a] w fun e w' => e = .returned (.bool false) ∧ w' = w := by
 go_enter Tryz.func118, Tryz.ntmps118
 go_wp2
 go_ret
 exact ⟨by simp, rfl⟩
def cmpV (a b : Int) : Int := if a < b then -1 else if b < a then 1 else 0
theorem compare_any (a b : Int) (w : World) : Calls Tryz.prog 103 #[.int .i64 a, .int .i64 b] w fun e w' => e = .returned (.int .i64 (cmpV a b)) ∧ w' = w := by
 have hc : (a < b ∧ cmpV a b = -1) ∨ (¬ a < b ∧ b < a ∧ cmpV a b = 1) ∨ (¬ a < b ∧ ¬ b < a ∧ cmpV a b = 0) := by
  unfold cmpV
  by_cases h1 : a < b
  ·simp [h1]
  ·by_cases h2 : b < a
   ·simp [h1, h2]
   ·simp [h1, h2]
 rcases hc with ⟨h1, h2⟩ | ⟨h1, h3, h2⟩ | ⟨h1, h3, h2⟩
 all_goals
  rw [h2]
  clear h2
  go_enter Tryz.func103, Tryz.ntmps103
  go_wp2_with (go_at_call 118; refine (isNaN_any _ _).mono ?_; rintro e w' ⟨rfl, rfl⟩)
  go_ret
  exact ⟨rfl, rfl⟩
theorem place1_any (i k f t z r id : Int) (w : World) : Calls Tryz.prog 102 #[tk i k f t z r, .int .i64 id] w fun e w' => e = .returned (.int .i64 (cmpV i id)) ∧ Below w.heap.size w w' := by
 go_enter Tryz.func102, Tryz.ntmps102
 go_wp2_with (go_at_call 103; refine (compare_any _ _ _).mono ?_; rintro e w' ⟨rfl, rfl⟩)
 go_ret
 exact ⟨rfl, (Below.refl _ _).alloc (Nat.le_refl _) _⟩
def Rising (T : List TK) : Prop := ∀ (p q : Nat) (x y : TK), T[p]? = some x → T[q]? = some y → p < q → x.i < y.i
def posT (T : List TK) (id : Int) : Nat := T.findIdx fun x => decide (id ≤ x.i)
def yF (T : List TK) (id : Int) : Bool := T.any fun x => x.i == id
theorem posT_of {T : List TK} {id : Int} {n : Nat} (hn : n ≤ T.length) (h1 : ∀ q x, T[q]? = some x → q < n → x.i < id) (h2 : ∀ q x, T[q]? = some x → n ≤ q → id ≤ x.i) : posT T id = n := by
 unfold posT
 rcases Nat.lt_or_ge n T.length with h | h
 ·rw [List.findIdx_eq h]
  refine ⟨?_, fun j hj => ?_⟩
  ·simpa using h2 n T[n] (by simp [h]) (Nat.le_refl _)
  ·have := h1 j (T[j]'(by omega)) (by simp) hj
   simpa using this
 ·obtain rfl : n = T.length := by omega
  rw [List.findIdx_eq_length]
  intro x hx
  obtain ⟨j, hj⟩ := List.mem_iff_getElem?.1 hx
  have := h1 j x hj (List.getElem?_eq_some_iff.1 hj).1
  simpa using this
theorem hasT_at {T : List TK} {id : Int} {n : Nat} {x : TK} (hr : Rising T) (hx : T[n]? = some x) (h1 : ∀ q x, T[q]? = some x → q < n → x.i < id) (h2 : ∀ q x, T[q]? = some x → n ≤ q → id ≤ x.i) : yF T id = decide (cmpV x.i id = 0) := by
 have h3 := h2 n x hx (Nat.le_refl _)
 have e : (cmpV x.i id = 0) ↔ x.i = id := by
  unfold cmpV
  split
  ·omega
  ·split <;> omega
 by_cases h : x.i = id
 ·rw [decide_eq_true (e.2 h), yF, List.any_eq_true]
  exact ⟨x, List.mem_of_getElem? hx, by simpa using h⟩
 ·rw [decide_eq_false (fun hh => h (e.1 hh)), yF, List.any_eq_false]
  intro y hy
  obtain ⟨j, hj⟩ := List.mem_iff_getElem?.1 hy
  rcases Nat.lt_trichotomy j n with hjn | rfl | hjn
  ·have := h1 j y hj hjn
   simp; omega
  ·rw [hx] at hj
   cases hj
   simpa using h
  ·have := hr n j x y hx hj hjn
   simp; omega
theorem hasT_none {T : List TK} {id : Int} (h1 : ∀ q x, T[q]? = some x → q < T.length → x.i < id) : yF T id = false := by
 rw [yF, List.any_eq_false]
 intro y hy
 obtain ⟨j, hj⟩ := List.mem_iff_getElem?.1 hy
 have := h1 j y hj (List.getElem?_eq_some_iff.1 hj).1
 simp; omega
theorem search_any (T : List TK) (id : Int) (o : Option Addr) (cap : Nat) (w : World) (hT : zH w o T) (hlen : T.length ≤ 12) (hr : Rising T) :
  Calls Tryz.prog 101 #[.slice o T.length cap, .int .i64 id, .func (.func 102) #[] #[]] w fun e w' =>
   e = .returned (.tuple #[.int .i64 (posT T id), .bool (yF T id)]) ∧ Below w.heap.size w w' := by
 have HT := zA hT
 have HR := zA hr
 clear hT hr
 go_enter Tryz.func101, Tryz.ntmps101
 go_wp2_with fail
 go_loopw [9, 10] (fun a b wr => ∃ (lo hi : Nat), lo ≤ hi ∧ hi ≤ T.length ∧ a = .int .i64 lo ∧ b = .int .i64 hi ∧ Hid ((∀ q x, T[q]? = some x → q < lo → x.i < id) ∧ (∀ q x, T[q]? = some x → hi ≤ q → id ≤ x.i)) ∧ Below w.heap.size w wr) (fun a b _ => (intOf b).toNat - (intOf a).toNat)
 case atStart => exact ⟨0, T.length, Nat.zero_le _, Nat.le_refl _, rfl, rfl, ⟨fun q x _ h => by omega, fun q x h hq => by have := (List.getElem?_eq_some_iff.1 h).1; omega⟩, Below.refl _ _⟩
 case round =>
  obtain ⟨lo, hi, hlh, hhn, rfl, rfl, hI, hbr⟩ := hrel
  by_cases hgo : lo < hi
  ·obtain ⟨p, hp⟩ : ∃ p, T[(lo + hi) / 2]? = some p := ⟨T[(lo + hi) / 2]'(by omega), by simp⟩
   obtain ⟨A, rfl, c0, c1, c2, c3, c4, c5⟩ := (HT.out.below hbr) _ p hp
   have HP := zA hp
   clear hp
   go_wp2_with fail
   refine (place1_any _ _ _ _ _ _ _ _).mono ?_
   rintro e w3 ⟨rfl, hb3⟩
   have hbr3 := hbr.trans (hb3.mono hbr.size)
   clear hbr hb3 c0 c1 c2 c3 c4 c5
   by_cases hx : p.i < id
   ·have hc : cmpV p.i id = -1 := if_pos hx
    rw [hc]
    have HI : Hid ((∀ q x, T[q]? = some x → q < (lo + hi) / 2 + 1 → x.i < id) ∧ (∀ q x, T[q]? = some x → hi ≤ q → id ≤ x.i)) := by
     refine ⟨fun q x hq hlt => ?_, hI.out.2⟩
     rcases Nat.lt_or_ge q ((lo + hi) / 2) with h | h
     ·have := HR.out q _ x p hq HP.out h
      omega
     ·obtain rfl : q = (lo + hi) / 2 := by omega
      rw [HP.out] at hq
      cases hq
      exact hx
    clear hc hx
    go_wp2_with fail
    exact ⟨⟨(lo + hi) / 2 + 1, hi, by omega, hhn, by simp, rfl, HI, hbr3⟩, by simp [intOf]; omega⟩
   ·have hc : ¬ cmpV p.i id < 0 := by
     unfold cmpV
     rw [if_neg hx]
     split <;> omega
    have HI : Hid ((∀ q x, T[q]? = some x → q < lo → x.i < id) ∧ (∀ q x, T[q]? = some x → (lo + hi) / 2 ≤ q → id ≤ x.i)) := by
     refine ⟨hI.out.1, fun q x hq hlt => ?_⟩
     rcases Nat.lt_or_ge ((lo + hi) / 2) q with h | h
     ·have := HR.out _ q p x HP.out hq h
      omega
     ·obtain rfl : q = (lo + hi) / 2 := by omega
      rw [HP.out] at hq
      cases hq
      omega
    generalize cmpV p.i id = c at *
    go_wp2_with fail
    exact ⟨⟨lo, (lo + hi) / 2, by omega, by omega, rfl, by simp, HI, hbr3⟩, by simp [intOf]; omega⟩
  ·obtain rfl : lo = hi := by omega
   have HPos := zA (posT_of hhn hI.out.1 hI.out.2)
   rcases Nat.lt_or_ge lo T.length with hlt | hge
   ·obtain ⟨p, hp⟩ : ∃ p, T[lo]? = some p := ⟨T[lo], by simp [hlt]⟩
    obtain ⟨A, rfl, c0, c1, c2, c3, c4, c5⟩ := (HT.out.below hbr) _ p hp
    have HHas := zA (hasT_at HR.out hp hI.out.1 hI.out.2)
    clear hp
    go_wp2_with fail
    refine (place1_any _ _ _ _ _ _ _ _).mono ?_
    rintro e w3 ⟨rfl, hb3⟩
    have hbr3 := hbr.trans (hb3.mono hbr.size)
    clear hbr hb3 c0 c1 c2 c3 c4 c5
    go_wp2_with fail
    go_ret2
    refine ⟨?_, hbr3⟩
    rw [HPos.out, HHas.out]
    rfl
   ·obtain rfl : lo = T.length := by omega
    have HHas := zA (hasT_none hI.out.1)
    go_wp2_with fail
    go_ret2
    refine ⟨?_, hbr⟩
    rw [HPos.out, HHas.out]
    rfl
theorem place_any (T : List TK) (id : Int) (o1 o2 o3 : Option Addr) (c1 n2 c2 n3 c3 : Nat) (w : World) (hT : zH w o1 T) (hlen : T.length ≤ 12) (hr : Rising T) :
  Calls Tryz.prog 79 #[lg o1 o2 o3 T.length c1 n2 c2 n3 c3, .int .i64 id] w fun e w' =>
   e = .returned (.tuple #[.int .i64 (posT T id), .bool (yF T id)]) ∧ Below w.heap.size w w' := by
 have HS := zA (fun W (h : zH W o1 T) => search_any T id o1 c1 W h hlen hr)
 have HT := zA hT
 clear hT hr hlen
 go_enter Tryz.func79, Tryz.ntmps79
 go_wp2_with fail
 refine (HS.out _ (HT.out.below ((Below.refl _ _).alloc (Nat.le_refl _) _))).mono ?_
 rintro e w3 ⟨rfl, hb3⟩
 go_wp2_with fail
 go_ret2
 exact ⟨rfl, ((Below.refl _ _).alloc (Nat.le_refl _) _).trans (hb3.mono (by simp))⟩
theorem oneZone_any (n : Int) (w : World) :
  Calls Tryz.prog 124 #[.int .i64 n] w fun e w' => e = .returned (.bool (isZ n)) ∧ w' = w := by
 cases h1 : (n == 1) <;> cases h2 : (n == 2) <;> cases h3 : (n == 4) <;> cases h4 : (n == 8)
 all_goals
  go_enter Tryz.func124, Tryz.ntmps124
  go_wp2
  go_ret
  exact ⟨by simp [isZ, *], rfl⟩
def inP (a g s m : Int) : Bool := wi a 1 9999 && wi g 0 2 && wi s 1 99 && wi m 0 9999
theorem inRangeP_any (a g s m z : Int) (w : World) :
  Calls Tryz.prog 128 #[tp a g s m z] w fun e w' => e = .returned (.bool (inP a g s m)) ∧ Below w.heap.size w w' := by
 cases h1 : wi a 1 9999 <;> cases h2 : wi g 0 2 <;> cases h3 : wi s 1 99
 all_goals
  go_enter Tryz.func128, Tryz.ntmps128
  go_wp2_with first | (go_at_call 89; refine (zN _ _ _ _).mono ?_; rintro e w' ⟨rfl, rfl⟩) | (go_at_call 114; refine (isTime_any _ _).mono ?_; rintro e w' ⟨rfl, rfl⟩)
  go_ret
  exact ⟨by simp [inP, *], (Below.refl _ _).alloc (Nat.le_refl _) _⟩
theorem checkP_any (a g s m z : Int) (w : World) :
  Calls Tryz.prog 115 #[tp a g s m z] w fun e w' => e = .returned (.int .i64 (chkP a g s m z)) ∧ Below w.heap.size w w' := by
 generalize hC : chkP a g s m z = C
 have hc : (inP a g s m = false ∧ C = 3) ∨ (inP a g s m = true ∧ isZ z = false ∧ C = 9) ∨ (inP a g s m = true ∧ isZ z = true ∧ C = 0) := by
  rw [← hC]
  rw [chkP, show (wi a 1 9999 && wi g 0 2 && wi s 1 99 && wi m 0 9999) = inP a g s m from rfl]
  cases inP a g s m <;> cases isZ z <;> simp
 clear hC
 rcases hc with ⟨h1, rfl⟩ | ⟨h1, h2, rfl⟩ | ⟨h1, h2, rfl⟩
 ·go_enter Tryz.func115, Tryz.ntmps115
  go_wp2_with fail
  refine (inRangeP_any _ _ _ _ _ _).mono ?_
  rintro e w1 ⟨rfl, hb⟩
  obtain ⟨hc, hf⟩ := bcell hb
  go_wp2_with fail
  go_ret
  exact ⟨rfl, ((Below.refl _ _).alloc (Nat.le_refl _) _).trans (hb.mono (by simp))⟩
 all_goals
  go_enter Tryz.func115, Tryz.ntmps115
  go_wp2_with fail
  refine (inRangeP_any _ _ _ _ _ _).mono ?_
  rintro e w1 ⟨rfl, hb⟩
  obtain ⟨hc, hf⟩ := bcell hb
  go_wp2_with fail
  refine (oneZone_any _ _).mono ?_
  rintro e w2 ⟨rfl, rfl⟩
  go_wp2_with fail
  go_ret
  exact ⟨rfl, ((Below.refl _ _).alloc (Nat.le_refl _) _).trans (hb.mono (by simp))⟩
def spent (k r rides : Int) : Bool := decide ((k = 1 ∧ 0 < rides) ∨ (k = 3 ∧ r ≤ rides))
theorem spent_any (i k f t z r rides : Int) (w : World) :
  Calls Tryz.prog 132 #[tk i k f t z r, .int .i64 rides] w fun e w' => e = .returned (.bool (spent k r rides)) ∧ Below w.heap.size w w' := by
 generalize hS : spent k r rides = S
 unfold spent at hS
 have hk : ((k == 1) = true ∧ S = decide (1 ≤ rides)) ∨ ((k == 1) = false ∧ (k == 3) = true ∧ S = decide (r ≤ rides)) ∨ ((k == 1) = false ∧ (k == 3) = false ∧ S = false) := by
  rw [← hS]
  by_cases k1 : k = 1
  ·subst k1; simp; omega
  ·by_cases k3 : k = 3
   ·subst k3; simp
   ·simp [k1, k3]
 clear hS
 rcases hk with ⟨k1, rfl⟩ | ⟨k1, k2, rfl⟩ | ⟨k1, k2, rfl⟩
 all_goals
  go_enter Tryz.func132, Tryz.ntmps132
  go_wp2_with fail
  go_ret
  exact ⟨rfl, (Below.refl _ _).alloc (Nat.le_refl _) _⟩
theorem and_zone (z zone : Int) (hz : 0 ≤ z) (hz2 : z ≤ 15) (hzone : isZ zone = true) : (bits BinOp.and IntKind.i64 z zone == 0) = decide (z / zone % 2 = 0) := by
 have hq : zone = 1 ∨ zone = 2 ∨ zone = 4 ∨ zone = 8 := by simpa [isZ, or_assoc] using hzone
 obtain ⟨n, rfl⟩ := Int.eq_ofNat_of_zero_le hz
 have hn : n < 16 := by omega
 have key : ∀ n : Fin 16, ∀ q ∈ [(1 : Int), 2, 4, 8], (bits BinOp.and IntKind.i64 (n.val : Int) q == 0) = decide (((n.val : Int)) / q % 2 = 0) := by decide +kernel
 exact key ⟨n, hn⟩ zone (by simpa using hq)
theorem shut_any (i k f t z r a g s m zone : Int) (w : World) (hz : 0 ≤ z) (hz2 : z ≤ 15) (hzone : isZ zone = true) :
  Calls Tryz.prog 130 #[tk i k f t z r, tp a g s m zone] w fun e w' => e = .returned (.int .i64 (place f t z m zone)) ∧ Below w.heap.size w w' := by
 have hand := and_zone z zone hz hz2 hzone
 generalize hC : place f t z m zone = C
 have hc : (wi m f t = false ∧ C = 8) ∨ (wi m f t = true ∧ (bits BinOp.and IntKind.i64 z zone == 0) = true ∧ C = 9) ∨ (wi m f t = true ∧ (bits BinOp.and IntKind.i64 z zone == 0) = false ∧ C = 0) := by
  rw [hand, ← hC]
  unfold place
  cases wi m f t <;> by_cases h : z / zone % 2 = 0 <;> simp [h]
 clear hC hand
 rcases hc with ⟨h1, rfl⟩ | ⟨h1, h2, rfl⟩ | ⟨h1, h2, rfl⟩
 all_goals
  go_enter Tryz.func130, Tryz.ntmps130
  go_wp2_with (go_at_call 89; refine (zN _ _ _ _).mono ?_; rintro e w' ⟨rfl, rfl⟩)
  go_ret
  exact ⟨rfl, ((Below.refl _ _).alloc (Nat.le_refl _) _).alloc (by simp) _⟩
theorem wrong1_any (a g s m z i : Int) (B : Nat) (w : World) (hc : w.cell? ⟨B, 0, none⟩ = some (.int .i64 i)) :
  Calls Tryz.prog 139 #[tp a g s m z, .pointer (some ⟨B, 0, none⟩)] w fun e w' => e = .returned (.bool (a != i)) ∧ Below w.heap.size w w' := by
 have hlt := World.block_lt_of_cell? w ⟨B, 0, none⟩ hc
 go_enter Tryz.func139, Tryz.ntmps139
 go_wp2_with fail
 go_ret
 exact ⟨rfl, (Below.refl _ _).alloc (Nat.le_refl _) _⟩
theorem indexW_any (i : Int) (B : Nat) (o : Option Addr) (cap : Nat) (L : List TP) (w : World) (hL : zD w o L) (hlen : L.length ≤ 9223372036854775807) (hc : w.cell? ⟨B, 0, none⟩ = some (.int .i64 i)) :
  Calls Tryz.prog 127 #[.slice o L.length cap, .func (.func 139) #[] #[.pointer (some ⟨B, 0, none⟩)]] w fun e w' =>
   (∃ n : Int, e = .returned (.int .i64 n) ∧ decide (0 ≤ n) = L.any (fun p => p.a != i)) ∧ Below w.heap.size w w' := by
 have HL := zA hL
 clear hL
 have hlt := World.block_lt_of_cell? w ⟨B, 0, none⟩ hc
 go_enter Tryz.func127, Tryz.ntmps127
 go_wp2_with fail
 go_loopw [8] (fun j wr => ∃ (q : Nat), q ≤ L.length ∧ j = .int .i64 q ∧ Hid ((L.take q).any (fun p => p.a != i) = false) ∧ Below w.heap.size w wr) (fun j _ => L.length - (intOf j).toNat)
 case atStart => exact ⟨0, Nat.zero_le _, rfl, by show _ = _; simp, Below.refl _ _⟩
 case round =>
  obtain ⟨q, hq, rfl, hF, hbr⟩ := hrel
  have c' : wr.cell? ⟨B, 0, none⟩ = some (.int .i64 i) := by rw [hbr.cell (p := ⟨B, 0, none⟩) hlt]; exact hc
  by_cases hgo : q < L.length
  ·obtain ⟨p, hp⟩ : ∃ p, L[q]? = some p := ⟨L[q], by simp [hgo]⟩
   have HS : Hid ((L.take (q + 1)).any (fun p => p.a != i) = (p.a != i)) := by
    show _ = _
    rw [List.take_add_one, hp, Option.toList_some, List.any_append, hF.out]
    simp
   obtain ⟨A, rfl, c0, c1, c2, c3, c4⟩ := (HL.out.below hbr) q p hp
   have HP := zA hp
   clear hp
   go_wp2_with fail
   refine (wrong1_any _ _ _ _ _ i B _ c').mono ?_
   rintro e w3 ⟨rfl, hb3⟩
   have hbr3 := hbr.trans (hb3.mono hbr.size)
   clear hbr hb3 c'
   cases hx : (p.a != i)
   ·rw [hx] at HS
    go_wp2_with fail
    exact ⟨⟨q + 1, by omega, by simp, HS, hbr3⟩, by simp [intOf]; omega⟩
   ·go_wp2_with fail
    go_ret
    refine ⟨⟨q, rfl, ?_⟩, hbr3⟩
    have hp := HP.out
    have : L.any (fun p => p.a != i) = true := by
     rw [List.any_eq_true]
     exact ⟨p, List.mem_of_getElem? hp, hx⟩
    simp [this]
  ·go_wp2_with fail
   go_ret
   refine ⟨⟨-1, rfl, ?_⟩, hbr⟩
   have h1 := hF.out
   rw [List.take_of_length_le (by omega)] at h1
   simp [h1]
theorem containsW_any (i : Int) (B : Nat) (o : Option Addr) (cap : Nat) (L : List TP) (w : World) (hL : zD w o L) (hlen : L.length ≤ 9223372036854775807) (hc : w.cell? ⟨B, 0, none⟩ = some (.int .i64 i)) :
  Calls Tryz.prog 109 #[.slice o L.length cap, .func (.func 139) #[] #[.pointer (some ⟨B, 0, none⟩)]] w fun e w' =>
   e = .returned (.bool (L.any (fun p => p.a != i))) ∧ Below w.heap.size w w' := by
 have HI := zA (indexW_any i B o cap L w hL hlen hc)
 clear hL hc
 go_enter Tryz.func109, Tryz.ntmps109
 go_wp2_with fail
 refine HI.out.mono ?_
 rintro e w' ⟨⟨n, rfl, hn⟩, hb⟩
 have HN := zA hn
 clear hn
 go_wp2_with fail
 go_ret
 exact ⟨by rw [← HN.out]; rfl, hb⟩
theorem firstE_mis (i : Int) (L : List TP) : zB (L.map (misT i)) = if L.any (fun p => p.a != i) = true then 4 else 0 := by
 induction L with
 | nil => simp [zB]
 | cons p L ih =>
  by_cases h : p.a = i
  ·simp only [List.map_cons, zB, misT, h, if_true, List.any_cons]
   rw [show (misT i) = misT i from rfl] at ih
   simpa using ih
  ·simp [zB, misT, h]
theorem firstE_zero (l k : List Int) (h : zB l = 0) : zB (l ++ k) = zB k := by
 induction l with
 | nil => rfl
 | cons e l ih =>
  by_cases he : e = 0
  ·simp [zB, he] at h ⊢
   exact ih h
  ·simp [zB, he] at h
theorem errJ_end (i k f t z r rides : Int) (p : TP) (L : List TP) (h1 : chk i k f t z r = 0) (h2 : zS p = 0) (h3 : wi rides 0 60 = true) (h4 : zB (L.map zS) = 0) :
  errJ i k f t z r rides p L = if ((p.a != i) || L.any (fun p => p.a != i)) = true then 4 else 0 := by
 unfold errJ
 rw [List.append_assoc, List.append_assoc, firstE_zero _ _ (by simp [zB, h1, h2, h3]), firstE_zero _ _ h4]
 by_cases h : p.a = i
 ·have := firstE_mis i L
  simp only [List.cons_append, List.nil_append, zB, misT, h, if_true, bne_self_eq_false, Bool.false_or] at this ⊢
  exact this
 ·simp [zB, misT, h]
theorem errJ_was (i k f t z r rides : Int) (p : TP) (L : List TP) (h1 : chk i k f t z r = 0) (h2 : zS p = 0) (h3 : wi rides 0 60 = true) (q : Nat) (x : TP) (hx : L[q]? = some x) (h4 : zB ((L.take q).map zS) = 0) (h5 : zS x ≠ 0) :
  errJ i k f t z r rides p L = zS x := by
 unfold errJ
 rw [List.append_assoc, List.append_assoc, firstE_zero _ _ (by simp [zB, h1, h2, h3])]
 have : L.map zS = ((L.take q).map zS ++ [zS x]) ++ (L.drop (q + 1)).map zS := by
  have hq : q < L.length := (List.getElem?_eq_some_iff.mp hx).1
  rw [← List.map_singleton, ← List.map_append, ← List.map_append]
  congr 1
  rw [show [x] = [L[q]] by rw [(List.getElem?_eq_some_iff.mp hx).2], List.take_append_getElem, List.take_append_drop]
 rw [this, List.append_assoc, List.append_assoc, firstE_zero _ _ h4]
 simp [zB, h5]
theorem wrong_any (i k f t z r rides a g s m zone : Int) (o : Option Addr) (cap : Nat) (L : List TP) (w : World) (hL : zD w o L) (hlen : L.length ≤ 9223372036854775807) :
  Calls Tryz.prog 129 #[tk i k f t z r, .slice o L.length cap, .int .i64 rides, tp a g s m zone] w fun e w' =>
   e = .returned (.int .i64 (errJ i k f t z r rides ⟨a, g, s, m, zone⟩ L)) ∧ Below w.heap.size w w' := by
 have HL := zA hL
 clear hL
 have HW := zA (fun (h1 : chk i k f t z r = 0) (h2 : chkP a g s m zone = 0) (h3 : wi rides 0 60 = true) => errJ_was i k f t z r rides ⟨a, g, s, m, zone⟩ L h1 h2 h3)
 have HE := zA (fun (h1 : chk i k f t z r = 0) (h2 : chkP a g s m zone = 0) (h3 : wi rides 0 60 = true) => errJ_end i k f t z r rides ⟨a, g, s, m, zone⟩ L h1 h2 h3)
 have hways : ((chk i k f t z r != 0) = true ∧ errJ i k f t z r rides ⟨a, g, s, m, zone⟩ L = chk i k f t z r) ∨ (chk i k f t z r = 0 ∧ (chkP a g s m zone != 0) = true ∧ errJ i k f t z r rides ⟨a, g, s, m, zone⟩ L = chkP a g s m zone) ∨
   (chk i k f t z r = 0 ∧ chkP a g s m zone = 0 ∧ wi rides 0 60 = false ∧ errJ i k f t z r rides ⟨a, g, s, m, zone⟩ L = 3) ∨ (chk i k f t z r = 0 ∧ chkP a g s m zone = 0 ∧ wi rides 0 60 = true) := by
  unfold errJ
  by_cases h1 : chk i k f t z r = 0
  ·by_cases h2 : chkP a g s m zone = 0
   ·cases h3 : wi rides 0 60
    ·simp [zB, zS, h1, h2]
    ·simp [h1, h2]
   ·simp [zB, zS, h1, h2]
  ·simp [zB, h1]
 generalize errJ i k f t z r rides ⟨a, g, s, m, zone⟩ L = R at *
 have HT := zA (fun W => check_any i k f t z r W)
 have HP := zA (fun W => checkP_any a g s m zone W)
 generalize chk i k f t z r = X at HT hways HW HE
 generalize chkP a g s m zone = Y at HP hways HW HE
 rcases hways with ⟨h1, rfl⟩ | ⟨h1, h2, rfl⟩ | ⟨h1, h2, h3, rfl⟩ | ⟨h1, h2, h3⟩
 ·go_enter Tryz.func129, Tryz.ntmps129
  go_wp2_with fail
  refine (HT.out _).mono ?_
  rintro e wB ⟨rfl, hb1⟩
  obtain ⟨hc, hf⟩ := bcell hb1
  go_wp2_with fail
  go_ret
  exact ⟨rfl, ((((Below.refl w.heap.size w).alloc (Nat.le_refl _) _).alloc (by simp) _).trans (hb1.mono (by simp; omega)))⟩
 ·subst h1
  go_enter Tryz.func129, Tryz.ntmps129
  go_wp2_with fail
  refine (HT.out _).mono ?_
  rintro e wB ⟨rfl, hb1⟩
  obtain ⟨hc, hf⟩ := bcell hb1
  go_wp2_with fail
  refine (HP.out _).mono ?_
  rintro e wC ⟨rfl, hb2⟩
  have HB := zA (((((Below.refl w.heap.size w).alloc (Nat.le_refl _) _).alloc (by simp) _).trans (hb1.mono (by simp; omega))).trans (hb2.mono (by have := hb1.size; simp at this; omega)))
  clear hb1 hb2
  go_wp2_with fail
  go_ret
  exact ⟨rfl, HB.out⟩
 all_goals
  subst h1
  subst h2
  go_enter Tryz.func129, Tryz.ntmps129
  go_wp2_with fail
  refine (HT.out _).mono ?_
  rintro e w1 ⟨rfl, hb1⟩
  obtain ⟨hc, hf⟩ := bcell hb1
  go_wp2_with fail
  refine (HP.out _).mono ?_
  rintro e wC ⟨rfl, hb2⟩
  have HB := zA (((((Below.refl w.heap.size w).alloc (Nat.le_refl _) _).alloc (by simp) _).trans (hb1.mono (by simp; omega))).trans (hb2.mono (by have := hb1.size; simp at this; omega)))
  have HC := zA (show wC.cell? ⟨w.heap.size, 0, none⟩ = some (.int .i64 i) ∧ Tap5 wC ⟨w.heap.size + 1, 0, none⟩ ⟨a, g, s, m, zone⟩ ∧ w.heap.size + 1 < wC.heap.size by
   have s1 := hb1.size
   have s2 := hb2.size
   simp at s1
   refine ⟨?_, ⟨?_, ?_, ?_, ?_, ?_⟩, by omega⟩
   ·rw [hb2.cell (p := ⟨w.heap.size, 0, none⟩) (show w.heap.size < w1.heap.size by omega), hc _ _ (by simp; omega)]
    simp [go_sem]
   all_goals
    rw [hb2.cell (show w.heap.size + 1 < w1.heap.size by omega), hc _ _ (by simp)]
    simp [go_sem])
  clear hb1 hb2 hc hf
  go_wp2_with (go_at_call 89; refine (zN _ _ _ _).mono ?_; rintro e wD ⟨rfl, hwD⟩; obtain rfl := hwD.symm)
 ·go_ret
  exact ⟨rfl, HB.out⟩
 ·have HW' := zA (HW.out trivial trivial h3)
  have HE' := zA (HE.out trivial trivial h3)
  clear HW HE
  go_loopw [31] (fun j wr => ∃ (q : Nat), q ≤ L.length ∧ j = .int .i64 q ∧ Hid (zB ((L.take q).map zS) = 0) ∧ Below wC.heap.size wC wr) (fun j _ => L.length - (intOf j).toNat)
  case atStart => exact ⟨0, Nat.zero_le _, rfl, by show _ = _; simp [zB], Below.refl _ _⟩
  case round =>
   obtain ⟨q, hq, rfl, hF, hbr⟩ := hrel
   have HBB := zA (HB.out.trans (hbr.mono HB.out.size))
   by_cases hgo : q < L.length
   ·obtain ⟨p, hp⟩ : ∃ p, L[q]? = some p := ⟨L[q], by simp [hgo]⟩
    have HS : Hid (chkP p.a p.g p.s p.m p.z = 0 → zB ((L.take (q + 1)).map zS) = 0) := by
     show _ → _
     intro h0
     rw [List.take_add_one, hp, Option.toList_some, List.map_append, List.map_singleton, firstE_snoc, if_pos hF.out]
     exact h0
    have HS2 := zA (HW'.out q p hp hF.out)
    obtain ⟨A, rfl, c0, c1, c2, c3, c4⟩ := (HL.out.below HBB.out) q p hp
    clear hp
    go_wp2_with fail
    refine (checkP_any _ _ _ _ _ _).mono ?_
    rintro e w3 ⟨rfl, hb3⟩
    have HB3 : Hid (Below wr.heap.size wr w3) := by
     refine zA (Below.trans ?_ (hb3.mono ?_))
     ·repeat (first | with_reducible exact Below.refl _ _ | with_reducible refine Below.alloc ?_ (by simp) _ | with_reducible refine Below.setCell ?_ (by simp) _)
     ·simp
    have HB4 := zA (hbr.trans (HB3.out.mono hbr.size))
    clear hb3 hbr
    cases hx : (chkP p.a p.g p.s p.m p.z != 0)
    ·go_wp2_with fail
     exact ⟨⟨q + 1, by omega, by simp, HS.out (by simpa using hx), HB4.out⟩, by simp [intOf]; omega⟩
    ·go_wp2_with fail
     go_ret
     exact ⟨by rw [HS2.out (by simpa [zS] using hx)]; rfl, HBB.out.trans (HB3.out.mono HBB.out.size)⟩
   ·have HF : Hid (R = if (a != i || L.any fun p => p.a != i) = true then 4 else 0) := by
     have h1 := hF.out
     rw [List.take_of_length_le (by omega)] at h1
     exact HE'.out h1
    obtain ⟨b0, b1, b2⟩ := HC.out
    have d0 : wr.cell? ⟨w.heap.size, 0, none⟩ = some (.int .i64 i) := by rw [hbr.cell (p := ⟨w.heap.size, 0, none⟩) (show w.heap.size < wC.heap.size by omega)]; exact b0
    obtain ⟨c0, c1, c2, c3, c4⟩ := b1.below hbr b2
    clear b0 b1 b2
    have hl0 : w.heap.size < wr.heap.size := World.block_lt_of_cell? wr ⟨w.heap.size, 0, none⟩ d0
    simp at c0 c1 c2 c3 c4
    cases hx : (a != i)
    ·rw [hx] at HF
     cases hy : L.any (fun p => p.a != i)
     all_goals
      rw [hy] at HF
      go_wp2_with fail
      refine (wrong1_any _ _ _ _ _ i _ _ d0).mono ?_
      rintro e w3 ⟨rfl, hb3⟩
      have d1 : w3.cell? ⟨w.heap.size, 0, none⟩ = some (.int .i64 i) := by rw [hb3.cell (p := ⟨w.heap.size, 0, none⟩) hl0]; exact d0
      go_wp2_with fail
      refine (containsW_any i _ o cap L w3 ((HL.out.below HBB.out).below hb3) hlen d1).mono ?_
      rintro e w4 ⟨rfl, hb4⟩
      go_wp2_with fail
      go_ret
      exact ⟨by rw [HF.out]; rfl, (HBB.out.trans (hb3.mono HBB.out.size)).trans (hb4.mono (Nat.le_trans HBB.out.size hb3.size))⟩
    ·rw [hx] at HF
     go_wp2_with fail
     refine (wrong1_any _ _ _ _ _ i _ _ d0).mono ?_
     rintro e w3 ⟨rfl, hb3⟩
     go_wp2_with fail
     go_ret
     exact ⟨by rw [HF.out]; rfl, (HBB.out.trans (hb3.mono HBB.out.size))⟩
def yW (L : List TP) : Int := match L.getLast? with
 | none => -1
 | some p => p.m
def goes (last m : Int) : Bool := decide (0 ≤ last ∧ last ≤ m ∧ m < last + 60)
theorem lastT_at (L : List TP) (p : TP) (n : Nat) (hn : L.length = n + 1) (hp : L[n]? = some p) : yW L = p.m := by
 rw [yW, List.getLast?_eq_getElem?, hn, Nat.add_sub_cancel, hp]
theorem goesOn_any (a g s m zone : Int) (o : Option Addr) (cap : Nat) (L : List TP) (w : World) (hL : zD w o L) (hlen : L.length ≤ 9223372036854775807) (hm : 0 ≤ m) (hm2 : m ≤ 9999) (hl : ∀ p ∈ L, 0 ≤ p.m ∧ p.m ≤ 9999) :
  Calls Tryz.prog 131 #[.slice o L.length cap, tp a g s m zone] w fun e w' => e = .returned (.bool (goes (yW L) m)) ∧ Below w.heap.size w w' := by
 rcases hn : L.length with _ | n
 ·have hL0 : L = [] := List.eq_nil_of_length_eq_zero hn
  subst hL0
  clear hL hl
  go_enter Tryz.func131, Tryz.ntmps131
  go_wp2_with fail
  go_ret
  exact ⟨by simp [goes, yW], (Below.refl _ _).alloc (Nat.le_refl _) _⟩
 ·obtain ⟨p, hp⟩ : ∃ p, L[n]? = some p := ⟨L[n]'(by omega), by simp [hn]⟩
  have h1 := hl p (List.mem_of_getElem? hp)
  have HR := zA (lastT_at L p n hn hp)
  obtain ⟨A, rfl, h5⟩ := hL n p hp
  obtain ⟨c0, c1, c2, c3, c4⟩ := h5.below ((Below.refl w.heap.size w).alloc (Nat.le_refl _) (.cells #[.int .i64 a, .int .i64 g, .int .i64 s, .int .i64 m, .int .i64 zone] 66)) h5.lt
  have HH := zA (show Tap5 w (A.add (n * 5)) p from h5)
  have hnb : n < 9223372036854775807 := by omega
  clear h5 hL hp hn hl
  obtain ⟨e1, e2⟩ := h1
  go_enter Tryz.func131, Tryz.ntmps131
  go_wp2_with fail
  go_region
  go_wp2_with (go_at_call 89; refine (zN _ _ _ _).mono ?_; rintro e w' ⟨rfl, rfl⟩)
  go_ret
  refine ⟨?_, ((Below.refl w.heap.size w).alloc (Nat.le_refl _) _).drew⟩
  have e : wi (m - p.m) 0 59 = goes (yW L) m := by
   rw [HR.out]
   simp only [wi, goes, ← Bool.decide_and]
   exact decide_eq_decide.mpr ⟨fun h => by omega, fun h => by omega⟩
  rw [← e]
  rfl
theorem yS (l : List Int) (h : zB l = 0) : ∀ x ∈ l, x = 0 := by
 induction l with
 | nil => intro x hx; cases hx
 | cons e l ih =>
  by_cases he : e = 0
  ·simp [zB, he] at h
   intro x hx
   rcases List.mem_cons.mp hx with rfl | hx
   ·exact he
   ·exact ih h x hx
  ·simp [zB, he] at h
theorem chkP_right {a g s m z : Int} (h : chkP a g s m z = 0) : (1 ≤ a ∧ a ≤ 9999) ∧ (0 ≤ g ∧ g ≤ 2) ∧ (1 ≤ s ∧ s ≤ 99) ∧ (0 ≤ m ∧ m ≤ 9999) ∧ isZ z = true := by
 unfold chkP at h
 split at h
 ·simp at h
 ·split at h
  ·simp at h
  ·simp_all [wi]
theorem chk_right {i k f t z r : Int} (h : chk i k f t z r = 0) : (1 ≤ i ∧ i ≤ 9999) ∧ (0 ≤ f ∧ f ≤ 9999) ∧ (0 ≤ t ∧ t ≤ 9999) ∧ (1 ≤ z ∧ z ≤ 15) ∧ (1 ≤ k ∧ k ≤ 3) ∧ f ≤ t ∧ yO k r = true := by
 unfold chk at h
 split at h
 ·simp at h
 ·split at h
  ·simp at h
  ·split at h
   ·simp at h
   ·split at h
    ·simp at h
    ·simp_all [wi, inR]
theorem errJ_right {i k f t z r rides : Int} {p : TP} {L : List TP} (h : errJ i k f t z r rides p L = 0) :
  chk i k f t z r = 0 ∧ zS p = 0 ∧ wi rides 0 60 = true ∧ (∀ x ∈ L, zS x = 0) ∧ p.a = i ∧ (∀ x ∈ L, x.a = i) := by
 have h0 := yS _ h
 simp only [List.mem_append, List.mem_cons, List.not_mem_nil, or_false, List.mem_map] at h0
 refine ⟨h0 _ (by simp), h0 _ (by simp), ?_, fun x hx => h0 _ (Or.inl (Or.inl (Or.inr ⟨x, hx, rfl⟩))), ?_, fun x hx => ?_⟩
 ·have := h0 (if wi rides 0 60 = true then 0 else 3) (by simp)
  cases hw : wi rides 0 60
  ·simp [hw] at this
  ·rfl
 ·have := h0 (misT i p) (by simp)
  by_cases e : p.a = i
  ·exact e
  ·simp [misT, e] at this
 ·have := h0 (misT i x) (Or.inr ⟨x, hx, rfl⟩)
  by_cases e : x.a = i
  ·exact e
  ·simp [misT, e] at this
def judgeV (i k f t z r rides : Int) (p : TP) (L : List TP) : Int × Int :=
 if errJ i k f t z r rides p L ≠ 0 then (0, errJ i k f t z r rides p L) else judge k f t z r (yW L) rides p.m p.z
abbrev cK (i k f t z r : Int) (T : TypeId) : Obj := .cells #[.int .i64 i, .int .i64 k, .int .i64 f, .int .i64 t, .int .i64 z, .int .i64 r] T
abbrev cP (a g s m z : Int) (T : TypeId) : Obj := .cells #[.int .i64 a, .int .i64 g, .int .i64 s, .int .i64 m, .int .i64 z] T
def Boxes (w w1 : World) (x : TK) (p : TP) : Prop := Tik6 w1 ⟨w.heap.size + 1 + 1, 0, none⟩ x ∧ Tap5 w1 ⟨w.heap.size + 1, 0, none⟩ p ∧ w.heap.size + 1 + 1 < w1.heap.size ∧ Below w.heap.size w w1
theorem boxes_of (i k f t z r a g s m zone : Int) (T1 T2 T3 : TypeId) (w w1 : World) (h : Below (((w.alloc (cK i k f t z r T1)).alloc (cP a g s m zone T2)).alloc (cK i k f t z r T3)).heap.size (((w.alloc (cK i k f t z r T1)).alloc (cP a g s m zone T2)).alloc (cK i k f t z r T3)) w1) :
  Boxes w w1 ⟨i, k, f, t, z, r⟩ ⟨a, g, s, m, zone⟩ := by
 have s1 := h.size
 simp at s1
 refine ⟨Tik6.below (w := ((w.alloc (cK i k f t z r T1)).alloc (cP a g s m zone T2)).alloc (cK i k f t z r T3)) ⟨?_, ?_, ?_, ?_, ?_, ?_⟩ h (by simp), Tap5.below (w := ((w.alloc (cK i k f t z r T1)).alloc (cP a g s m zone T2)).alloc (cK i k f t z r T3)) ⟨?_, ?_, ?_, ?_, ?_⟩ h (by simp), by omega,
  Below.trans ((((Below.refl _ _).alloc (Nat.le_refl _) _).alloc (by simp) _).alloc (by simp; omega) _) (h.mono (by simp; omega))⟩
 all_goals simp [go_sem]
theorem Boxes.on {w w1 w2 : World} {x : TK} {p : TP} (h : Boxes w w1 x p) (hb : Below w1.heap.size w1 w2) : Boxes w w2 x p :=
 ⟨h.1.below hb h.1.lt, h.2.1.below hb h.2.1.lt, Nat.lt_of_lt_of_le h.2.2.1 hb.size, h.2.2.2.trans (hb.mono h.2.2.2.size)⟩
theorem judge_any (i k f t z r rides a g s m zone : Int) (o : Option Addr) (cap : Nat) (L : List TP) (w : World) (hL : zD w o L) (hlen : L.length ≤ 9223372036854775807) :
  Calls Tryz.prog 117 #[tk i k f t z r, .slice o L.length cap, .int .i64 rides, tp a g s m zone] w fun e w' =>
   e = .returned (.tuple #[.int .i64 (judgeV i k f t z r rides ⟨a, g, s, m, zone⟩ L).1, .int .i64 (judgeV i k f t z r rides ⟨a, g, s, m, zone⟩ L).2]) ∧ Below w.heap.size w w' := by
 have HL := zA hL
 clear hL
 have HG := zA (fun (h : errJ i k f t z r rides ⟨a, g, s, m, zone⟩ L = 0) => errJ_right h)
 have HX := zA (fun W (h : zD W o L) => wrong_any i k f t z r rides a g s m zone o cap L W h hlen)
 generalize hJ : judgeV i k f t z r rides ⟨a, g, s, m, zone⟩ L = J
 unfold judgeV judge at hJ
 simp only [] at hJ
 generalize errJ i k f t z r rides ⟨a, g, s, m, zone⟩ L = E at *
 by_cases hE : E = 0
 ·subst hE
  obtain ⟨h1, h2, -, h4, -⟩ := HG.out rfl
  obtain ⟨-, -, -, ⟨z1, z2⟩, -⟩ := chk_right h1
  obtain ⟨-, -, -, ⟨m1, m2⟩, hzone⟩ := chkP_right h2
  have HS := zA (fun W => shut_any i k f t z r a g s m zone W (by omega) z2 hzone)
  have HGo := zA (fun W (h : zD W o L) => goesOn_any a g s m zone o cap L W h hlen m1 m2 (fun p hp => (chkP_right (h4 p hp)).2.2.2.1))
  clear h1 h2 h4 z1 z2 m1 m2 hzone HG
  generalize place f t z m zone = P at *
  have hgo : goes (yW L) m = decide (0 ≤ yW L ∧ yW L ≤ m ∧ m < yW L + 60) := rfl
  have hsp : spent k r rides = decide ((k = 1 ∧ 0 < rides) ∨ (k = 3 ∧ r ≤ rides)) := rfl
  have hc : ((P != 0) = true ∧ J = (3, P)) ∨ (P = 0 ∧ goes (yW L) m = true ∧ J = (2, 0)) ∨ (P = 0 ∧ goes (yW L) m = false ∧ spent k r rides = true ∧ J = (3, 10)) ∨ (P = 0 ∧ goes (yW L) m = false ∧ spent k r rides = false ∧ J = (1, 0)) := by
   rw [hgo, hsp, ← hJ]
   by_cases hP : P = 0
   ·by_cases c1 : 0 ≤ yW L ∧ yW L ≤ m ∧ m < yW L + 60
    ·simp [hP, c1]
    ·by_cases c2 : (k = 1 ∧ 0 < rides) ∨ (k = 3 ∧ r ≤ rides)
     ·simp only [hP, c1, c2]; simp
     ·simp only [hP, c1, c2]; simp
   ·simp [hP]
  clear hgo hsp hJ
  generalize goes (yW L) m = G at *
  have HSp := zA (fun W => spent_any i k f t z r rides W)
  generalize spent k r rides = Sp at *
  rcases hc with ⟨h1, rfl⟩ | ⟨rfl, rfl, rfl⟩ | ⟨rfl, rfl, rfl, rfl⟩ | ⟨rfl, rfl, rfl, rfl⟩
  all_goals
   go_enter Tryz.func117, Tryz.ntmps117
   go_wp2_with fail
   refine (HX.out _ (HL.out.below ?_)).mono ?_
   ·repeat (first | with_reducible exact Below.refl _ _ | with_reducible refine Below.alloc ?_ (by simp; try omega) _ | with_reducible refine Below.setCell ?_ (by simp; try omega) _)
   rintro e w1 ⟨rfl, hb1⟩
   have HB1 := zA (boxes_of _ _ _ _ _ _ _ _ _ _ _ _ _ _ _ _ hb1)
   clear hb1
   obtain ⟨⟨x0, x1, x2, x3, x4, x5⟩, ⟨y0, y1, y2, y3, y4⟩, -, -⟩ := HB1.out
   simp only [Nat.zero_add] at x0 x1 x2 x3 x4 x5 y0 y1 y2 y3 y4
   go_wp2_with fail
   refine (HS.out _).mono ?_
   rintro e w2 ⟨rfl, hb2⟩
   have HB2 := zA (HB1.out.on hb2)
   clear hb2 HB1 x0 x1 x2 x3 x4 x5 y0 y1 y2 y3 y4
   obtain ⟨⟨x0, x1, x2, x3, x4, x5⟩, ⟨y0, y1, y2, y3, y4⟩, -, -⟩ := HB2.out
   simp only [Nat.zero_add] at x0 x1 x2 x3 x4 x5 y0 y1 y2 y3 y4
   go_wp2_with fail
  ·go_ret2
   exact ⟨rfl, HB2.out.2.2.2⟩
  all_goals
   refine (HGo.out _ (HL.out.below HB2.out.2.2.2)).mono ?_
   rintro e w3 ⟨rfl, hb3⟩
   have HB3 := zA (HB2.out.on hb3)
   clear hb3 HB2 x0 x1 x2 x3 x4 x5 y0 y1 y2 y3 y4
   obtain ⟨⟨x0, x1, x2, x3, x4, x5⟩, ⟨y0, y1, y2, y3, y4⟩, -, -⟩ := HB3.out
   simp only [Nat.zero_add] at x0 x1 x2 x3 x4 x5 y0 y1 y2 y3 y4
   go_wp2_with fail
  ·go_ret2
   exact ⟨rfl, HB3.out.2.2.2⟩
  all_goals
   refine (HSp.out _).mono ?_
   rintro e w4 ⟨rfl, hb4⟩
   have HB4 := zA (HB3.out.on hb4)
   clear hb4 HB3 x0 x1 x2 x3 x4 x5 y0 y1 y2 y3 y4
   go_wp2_with fail
   go_ret2
   exact ⟨rfl, HB4.out.2.2.2⟩
 ·have hE' : (E != 0) = true := by simpa using hE
  rw [if_pos hE] at hJ
  subst hJ
  clear hE HG
  go_enter Tryz.func117, Tryz.ntmps117
  go_wp2_with fail
  refine (HX.out _ (HL.out.below ?_)).mono ?_
  ·repeat (first | with_reducible exact Below.refl _ _ | with_reducible refine Below.alloc ?_ (by simp; try omega) _ | with_reducible refine Below.setCell ?_ (by simp; try omega) _)
  rintro e w1 ⟨rfl, hb1⟩
  have HB1 := zA (boxes_of _ _ _ _ _ _ _ _ _ _ _ _ _ _ _ _ hb1)
  clear hb1
  go_wp2_with fail
  go_ret2
  exact ⟨rfl, HB1.out.2.2.2⟩
theorem unfit1_any (a g s m z : Int) (p : TP) (B : Nat) (w : World) (hc : Tap5 w ⟨B, 0, none⟩ p) :
  Calls Tryz.prog 116 #[tp a g s m z, .pointer (some ⟨B, 0, none⟩)] w fun e w' => e = .returned (.bool (g == p.g && s == p.s)) ∧ Below w.heap.size w w' := by
 have hlt := hc.lt
 obtain ⟨c0, c1, c2, c3, c4⟩ := hc
 simp only [Nat.zero_add] at c0 c1 c2 c3 c4 hlt
 cases h1 : (g == p.g)
 all_goals
  go_enter Tryz.func116, Tryz.ntmps116
  go_wp2_with fail
  go_ret
  exact ⟨rfl, (Below.refl _ _).alloc (Nat.le_refl _) _⟩
theorem indexU_any (p : TP) (B : Nat) (o : Option Addr) (cap : Nat) (L : List TP) (w : World) (hL : zD w o L) (hlen : L.length ≤ 9223372036854775807) (hc : Tap5 w ⟨B, 0, none⟩ p) :
  Calls Tryz.prog 127 #[.slice o L.length cap, .func (.func 116) #[] #[.pointer (some ⟨B, 0, none⟩)]] w fun e w' =>
   (∃ n : Int, e = .returned (.int .i64 n) ∧ decide (0 ≤ n) = yE L p) ∧ Below w.heap.size w w' := by
 have HL := zA hL
 have HC := zA hc
 clear hL hc
 go_enter Tryz.func127, Tryz.ntmps127
 go_wp2_with fail
 go_loopw [8] (fun j wr => ∃ (q : Nat), q ≤ L.length ∧ j = .int .i64 q ∧ Hid (yE (L.take q) p = false) ∧ Below w.heap.size w wr) (fun j _ => L.length - (intOf j).toNat)
 case atStart => exact ⟨0, Nat.zero_le _, rfl, by show _ = _; simp [yE], Below.refl _ _⟩
 case round =>
  obtain ⟨q, hq, rfl, hF, hbr⟩ := hrel
  by_cases hgo : q < L.length
  ·obtain ⟨x, hp⟩ : ∃ x, L[q]? = some x := ⟨L[q], by simp [hgo]⟩
   have HS : Hid (yE (L.take (q + 1)) p = (x.g == p.g && x.s == p.s)) := by
    show _ = _
    have h0 := hF.out
    unfold yE at h0 ⊢
    rw [List.take_add_one, hp, Option.toList_some, List.any_append, h0]
    simp
   obtain ⟨A, rfl, c0, c1, c2, c3, c4⟩ := (HL.out.below hbr) q x hp
   have HP := zA hp
   clear hp
   go_wp2_with fail
   refine (unfit1_any _ _ _ _ _ p B _ (HC.out.below hbr HC.out.lt)).mono ?_
   rintro e w3 ⟨rfl, hb3⟩
   have hbr3 := hbr.trans (hb3.mono hbr.size)
   clear hbr hb3
   cases hx : (x.g == p.g && x.s == p.s)
   ·rw [hx] at HS
    go_wp2_with fail
    exact ⟨⟨q + 1, by omega, by simp, HS, hbr3⟩, by simp [intOf]; omega⟩
   ·go_wp2_with fail
    go_ret
    refine ⟨⟨q, rfl, ?_⟩, hbr3⟩
    have hp := HP.out
    have : yE L p = true := by
     unfold yE
     rw [List.any_eq_true]
     exact ⟨x, List.mem_of_getElem? hp, hx⟩
    simp [this]
  ·go_wp2_with fail
   go_ret
   refine ⟨⟨-1, rfl, ?_⟩, hbr⟩
   have h1 := hF.out
   rw [List.take_of_length_le (by omega)] at h1
   simp [h1]
theorem containsU_any (p : TP) (B : Nat) (o : Option Addr) (cap : Nat) (L : List TP) (w : World) (hL : zD w o L) (hlen : L.length ≤ 9223372036854775807) (hc : Tap5 w ⟨B, 0, none⟩ p) :
  Calls Tryz.prog 109 #[.slice o L.length cap, .func (.func 116) #[] #[.pointer (some ⟨B, 0, none⟩)]] w fun e w' =>
   e = .returned (.bool (yE L p)) ∧ Below w.heap.size w w' := by
 have HI := zA (indexU_any p B o cap L w hL hlen hc)
 clear hL hc
 go_enter Tryz.func109, Tryz.ntmps109
 go_wp2_with fail
 refine HI.out.mono ?_
 rintro e w' ⟨⟨n, rfl, hn⟩, hb⟩
 have HN := zA hn
 clear hn
 go_wp2_with fail
 go_ret
 exact ⟨by rw [← HN.out]; rfl, hb⟩
abbrev cL (o1 o2 o3 : Option Addr) (n1 c1 n2 c2 n3 c3 : Nat) (T : TypeId) : Obj := .cells #[.slice o1 n1 c1, .slice o2 n2 c2, .slice o3 n3 c3] T
structure Led3 (w : World) (b : Nat) (o1 o2 o3 : Option Addr) (n1 c1 n2 c2 n3 c3 : Nat) : Prop where
 c0 : w.cell? ⟨b, 0, none⟩ = some (.slice o1 n1 c1)
 c1 : w.cell? ⟨b, 1, none⟩ = some (.slice o2 n2 c2)
 c2 : w.cell? ⟨b, 2, none⟩ = some (.slice o3 n3 c3)
theorem Led3.lt {w : World} {b : Nat} {o1 o2 o3 : Option Addr} {n1 c1 n2 c2 n3 c3 : Nat} (h : Led3 w b o1 o2 o3 n1 c1 n2 c2 n3 c3) : b < w.heap.size := World.block_lt_of_cell? w ⟨b, 0, none⟩ h.c0
theorem Led3.below {B : Nat} {w w' : World} {b : Nat} {o1 o2 o3 : Option Addr} {n1 c1 n2 c2 n3 c3 : Nat} (h : Led3 w b o1 o2 o3 n1 c1 n2 c2 n3 c3) (hb : Below B w w') (hlt : b < B) : Led3 w' b o1 o2 o3 n1 c1 n2 c2 n3 c3 :=
 ⟨by rw [hb.cell (p := ⟨b, 0, none⟩) hlt]; exact h.c0, by rw [hb.cell (p := ⟨b, 1, none⟩) hlt]; exact h.c1, by rw [hb.cell (p := ⟨b, 2, none⟩) hlt]; exact h.c2⟩
def BoxesB (w w1 : World) (o1 o2 o3 : Option Addr) (n1 c1 n2 c2 n3 c3 : Nat) (p : TP) : Prop :=
 Led3 w1 w.heap.size o1 o2 o3 n1 c1 n2 c2 n3 c3 ∧ Tap5 w1 ⟨w.heap.size + 1, 0, none⟩ p ∧ w.heap.size + 1 < w1.heap.size ∧ Below w.heap.size w w1
theorem boxesB_of (o1 o2 o3 : Option Addr) (n1 c1 n2 c2 n3 c3 : Nat) (a g s m zone : Int) (T1 T2 : TypeId) (w w1 : World) (h : Below ((w.alloc (cL o1 o2 o3 n1 c1 n2 c2 n3 c3 T1)).alloc (cP a g s m zone T2)).heap.size ((w.alloc (cL o1 o2 o3 n1 c1 n2 c2 n3 c3 T1)).alloc (cP a g s m zone T2)) w1) :
  BoxesB w w1 o1 o2 o3 n1 c1 n2 c2 n3 c3 ⟨a, g, s, m, zone⟩ := by
 have s1 := h.size
 simp at s1
 refine ⟨Led3.below (w := (w.alloc (cL o1 o2 o3 n1 c1 n2 c2 n3 c3 T1)).alloc (cP a g s m zone T2)) ⟨?_, ?_, ?_⟩ h (by simp; omega), Tap5.below (w := (w.alloc (cL o1 o2 o3 n1 c1 n2 c2 n3 c3 T1)).alloc (cP a g s m zone T2)) ⟨?_, ?_, ?_, ?_, ?_⟩ h (by simp), by omega,
  Below.trans (((Below.refl _ _).alloc (Nat.le_refl _) _).alloc (by simp) _) (h.mono (by simp; omega))⟩
 all_goals simp [go_sem]
theorem BoxesB.on {w w1 w2 : World} {o1 o2 o3 : Option Addr} {n1 c1 n2 c2 n3 c3 : Nat} {p : TP} (h : BoxesB w w1 o1 o2 o3 n1 c1 n2 c2 n3 c3 p) (hb : Below w1.heap.size w1 w2) : BoxesB w w2 o1 o2 o3 n1 c1 n2 c2 n3 c3 p :=
 ⟨h.1.below hb h.1.lt, h.2.1.below hb h.2.1.lt, Nat.lt_of_lt_of_le h.2.2.1 hb.size, h.2.2.2.trans (hb.mono h.2.2.2.size)⟩
def unf (T : List TK) (P : List TP) (p : TP) : Int := zB [zS p, if yF T p.a = true then 0 else 5, if yE P p = true then 6 else 0]
theorem unfit_any (T : List TK) (P : List TP) (o1 o2 o3 : Option Addr) (c1 c2 n3 c3 : Nat) (a g s m z : Int) (w : World) (hT : zH w o1 T) (hP : zD w o2 P) (hlen : T.length ≤ 12) (hlen2 : P.length ≤ 60) (hr : Rising T) :
  Calls Tryz.prog 97 #[lg o1 o2 o3 T.length c1 P.length c2 n3 c3, tp a g s m z] w fun e w' => e = .returned (.int .i64 (unf T P ⟨a, g, s, m, z⟩)) ∧ Below w.heap.size w w' := by
 have HT := zA hT
 have HP := zA hP
 have HC := zA (fun W => checkP_any a g s m z W)
 have HPl := zA (fun W (h : zH W o1 T) => place_any T a o1 o2 o3 c1 P.length c2 n3 c3 W h hlen hr)
 have HX := zA (fun W B (h : zD W o2 P) (hc : Tap5 W ⟨B, 0, none⟩ ⟨a, g, s, m, z⟩) => containsU_any ⟨a, g, s, m, z⟩ B o2 c2 P W h (by omega) hc)
 clear hT hP hr hlen hlen2
 generalize hU : unf T P ⟨a, g, s, m, z⟩ = U
 have hc : ((chkP a g s m z != 0) = true ∧ U = chkP a g s m z) ∨ (chkP a g s m z = 0 ∧ yF T a = false ∧ U = 5) ∨ (chkP a g s m z = 0 ∧ yF T a = true ∧ yE P ⟨a, g, s, m, z⟩ = true ∧ U = 6) ∨ (chkP a g s m z = 0 ∧ yF T a = true ∧ yE P ⟨a, g, s, m, z⟩ = false ∧ U = 0) := by
  rw [← hU]
  unfold unf
  by_cases h1 : chkP a g s m z = 0
  ·cases h2 : yF T a
   ·simp [zB, zS, h1]
   ·cases h3 : yE P ⟨a, g, s, m, z⟩ <;> simp [zB, zS, h1]
  ·simp [zB, zS, h1]
 clear hU
 generalize chkP a g s m z = X at *
 generalize yF T a = Y at *
 generalize yE P ⟨a, g, s, m, z⟩ = Z at *
 rcases hc with ⟨h1, rfl⟩ | ⟨rfl, rfl, rfl⟩ | ⟨rfl, rfl, rfl, rfl⟩ | ⟨rfl, rfl, rfl, rfl⟩
 all_goals
  go_enter Tryz.func97, Tryz.ntmps97
  go_wp2_with fail
  refine (HC.out _).mono ?_
  rintro e w1 ⟨rfl, hb1⟩
  have HB1 := zA (boxesB_of _ _ _ _ _ _ _ _ _ _ _ _ _ _ _ _ _ _ hb1)
  clear hb1
  obtain ⟨⟨x0, x1, x2⟩, ⟨y0, y1, y2, y3, y4⟩, -, -⟩ := HB1.out
  simp only [Nat.zero_add] at x0 x1 x2 y0 y1 y2 y3 y4
  go_wp2_with fail
 ·go_ret
  exact ⟨rfl, HB1.out.2.2.2⟩
 all_goals
  refine (HPl.out _ (HT.out.below HB1.out.2.2.2)).mono ?_
  rintro e w2 ⟨rfl, hb2⟩
  have HB2 := zA (HB1.out.on hb2)
  clear hb2 HB1 x0 x1 x2 y0 y1 y2 y3 y4
  obtain ⟨⟨x0, x1, x2⟩, ⟨y0, y1, y2, y3, y4⟩, -, -⟩ := HB2.out
  simp only [Nat.zero_add] at x0 x1 x2 y0 y1 y2 y3 y4
  go_wp2_with fail
 ·go_ret
  exact ⟨rfl, HB2.out.2.2.2⟩
 all_goals
  refine (HX.out _ _ (HP.out.below HB2.out.2.2.2) HB2.out.2.1).mono ?_
  rintro e w3 ⟨rfl, hb3⟩
  have HB3 := zA (HB2.out.on hb3)
  clear hb3 HB2 x0 x1 x2 y0 y1 y2 y3 y4
  go_wp2_with fail
  go_ret
  exact ⟨rfl, HB3.out.2.2.2⟩
def yZ (P : List TP) (m : Int) : Bool := match P.getLast? with
 | none => false
 | some p => decide (m < p.m)
theorem early_any (P : List TP) (o1 o2 o3 : Option Addr) (n1 c1 c2 n3 c3 : Nat) (a g s m z : Int) (w : World) (hP : zD w o2 P) (hlen : P.length ≤ 60) :
  Calls Tryz.prog 98 #[lg o1 o2 o3 n1 c1 P.length c2 n3 c3, tp a g s m z] w fun e w' => e = .returned (.bool (yZ P m)) ∧ Below w.heap.size w w' := by
 rcases hn : P.length with _ | n
 ·have hL0 : P = [] := List.eq_nil_of_length_eq_zero hn
  subst hL0
  clear hP
  go_enter Tryz.func98, Tryz.ntmps98
  go_wp2
  go_region
  go_wp2
  go_ret
  exact ⟨by simp [yZ], (((Below.refl _ _).alloc (Nat.le_refl _) _).alloc (by simp) _).drew⟩
 ·obtain ⟨p, hp⟩ : ∃ p, P[n]? = some p := ⟨P[n]'(by omega), by simp [hn]⟩
  have HE : Hid (yZ P m = decide (m < p.m)) := by
   show _ = _
   rw [yZ, List.getLast?_eq_getElem?, hn, Nat.add_sub_cancel, hp]
  obtain ⟨A, rfl, h5⟩ := hP n p hp
  have hnb : n < 60 := by omega
  obtain ⟨d0, d1, d2, d3, d4⟩ := h5.below (((Below.refl w.heap.size w).alloc (Nat.le_refl _) (cL o1 (some A) o3 n1 c1 (n + 1) c2 n3 c3 92)).alloc (by simp) (cP a g s m z 66)) h5.lt
  clear h5 hP hp hn hlen
  go_enter Tryz.func98, Tryz.ntmps98
  go_wp2
  go_region
  go_wp2
  go_ret
  exact ⟨by rw [HE.out]; rfl, (((Below.refl _ _).alloc (Nat.le_refl _) _).alloc (by simp) _).drew⟩
theorem info32 : (Tryz.prog.info? 66).map (fun i => (i.zero, i.size, i.bytes)) = some (some (.agg #[.int .i64 0, .int .i64 0, .int .i64 0, .int .i64 0, .int .i64 0]), 5, 40) := by kernel_rfl
def cellsP (L : List TP) : List Value := L.flatMap fun p => [.int .i64 p.a, .int .i64 p.g, .int .i64 p.s, .int .i64 p.m, .int .i64 p.z]
theorem cellsP_len (L : List TP) : (cellsP L).length = L.length * 5 := by
 induction L with
 | nil => rfl
 | cons p L ih =>
  rw [cellsP, List.flatMap_cons, List.length_append, List.length_cons, ← cellsP, ih]
  simp; omega
theorem cellsP_snoc (L : List TP) (p : TP) : cellsP (L ++ [p]) = cellsP L ++ [.int .i64 p.a, .int .i64 p.g, .int .i64 p.s, .int .i64 p.m, .int .i64 p.z] := by simp [cellsP]
theorem cellsP_get (L : List TP) (i : Nat) (p : TP) (h : L[i]? = some p) (j : Nat) (hj : j < 5) : (cellsP L)[i * 5 + j]? = [Value.int .i64 p.a, .int .i64 p.g, .int .i64 p.s, .int .i64 p.m, .int .i64 p.z][j]? := by
 induction L generalizing i with
 | nil => simp at h
 | cons q L ih =>
  rw [cellsP, List.flatMap_cons, ← cellsP]
  match i, h with
  | 0, h =>
   simp at h
   subst h
   rw [List.getElem?_append_left (by simp; omega)]
   simp
  | i + 1, h =>
   rw [List.getElem?_append_right (by simp; omega)]
   simp only [List.length_cons, List.length_nil]
   rw [show (i + 1) * 5 + j - (0 + 1 + 1 + 1 + 1 + 1) = i * 5 + j by omega]
   exact ih i (by simpa using h)
theorem add_block (a : Addr) (n : Nat) : (a.add n).block = a.block := by
 unfold Addr.add
 split <;> rfl
theorem taps_own {w : World} {base n : Nat} {v : Value} {L : List TP} (h : w.ownsRow base 66 5 v n (cellsP L)) : n = L.length ∧ ∃ (o : Option Addr) (cap : Nat), v = .slice o L.length cap ∧ zD w o L := by
 have hn : n = L.length := by have := h.1; rw [cellsP_len] at this; omega
 subst hn
 refine ⟨rfl, ?_⟩
 have hc := fun g => h.cells (g := g)
 rcases h.2 with ⟨rfl, h0⟩ | ⟨g, cap, cur, rfl, -⟩
 ·have : L = [] := List.eq_nil_of_length_eq_zero h0
  subst this
  exact ⟨none, 0, rfl, fun i p hi => by simp at hi⟩
 ·refine ⟨_, cap, rfl, fun i p hi => ⟨_, rfl, ?_⟩⟩
  have e := fun j hj => cellsP_get L i p hi j hj
  have c := fun j u hu => hc g rfl (i * 5 + j) u hu
  have a0 : ∀ j, ((⟨g, 0, none⟩ : Addr).add (i * 5 + j)) = ⟨((⟨g, 0, none⟩ : Addr).add (i * 5)).block, ((⟨g, 0, none⟩ : Addr).add (i * 5)).off + j, none⟩ := by
   intro j
   by_cases h1 : i * 5 = 0 <;> by_cases h2 : j = 0 <;> simp [Addr.add, h1, h2]
  refine ⟨?_, ?_, ?_, ?_, ?_⟩
  ·have := c 0 _ (e 0 (by omega))
   simpa using this
  ·rw [← a0]; exact c 1 _ (e 1 (by omega))
  ·rw [← a0]; exact c 2 _ (e 2 (by omega))
  ·rw [← a0]; exact c 3 _ (e 3 (by omega))
  ·rw [← a0]; exact c 4 _ (e 4 (by omega))
def zG (X : List (TP × Int)) (id : Int) : List TP := (X.filter fun x => x.1.a == id && x.2 == 1).map (·.1)
theorem ridesL_snoc (X : List (TP × Int)) (x : TP × Int) (id : Int) : zG (X ++ [x]) id = if (x.1.a == id && x.2 == 1) = true then zG X id ++ [x.1] else zG X id := by
 unfold zG
 rw [List.filter_append]
 by_cases h : (x.1.a == id && x.2 == 1) = true
 ·simp only [List.filter_cons, h, if_true, List.filter_nil, List.map_append, List.map_cons, List.map_nil]
 ·simp only [List.filter_cons, h, List.filter_nil]
  simp
theorem five_new (w : World) (a g s m z : Int) (T : TypeId) : ∀ j u, [Value.int .i64 a, .int .i64 g, .int .i64 s, .int .i64 m, .int .i64 z][j]? = some u → (w.alloc (cP a g s m z T)).cell? ((⟨w.heap.size, 0, none⟩ : Addr).add j) = some u := by
 intro j u hj
 match j, hj with
 | 0, hj | 1, hj | 2, hj | 3, hj | 4, hj =>
  simp at hj
  subst hj
  simp [Addr.add, go_sem]
theorem rides_any (P : List TP) (V : List Int) (id : Int) (o1 o2 o3 : Option Addr) (n1 c1 c2 c3 : Nat) (w : World) (hP : zD w o2 P) (hV : zF w o3 V) (hlen : P.length ≤ 60) (hlv : V.length = P.length) :
  Calls Tryz.prog 80 #[lg o1 o2 o3 n1 c1 P.length c2 V.length c3, .int .i64 id] w fun e w' =>
   (∃ o cap, e = .returned (.slice o (zG (P.zip V) id).length cap) ∧ zD w' o (zG (P.zip V) id)) ∧ Below w.heap.size w w' := by
 obtain ⟨i0, hi, hz0, hz1, hz2⟩ := info_parts info32
 have HP := zA hP
 have HV := zA hV
 have hlen2 : V.length ≤ 60 := by omega
 have HLV := zA hlv
 clear hP hV hlv
 go_enter Tryz.func80, Tryz.ntmps80
 go_wp2_with fail
 go_loopw [5, 12] (fun v j wr => ∃ (q : Nat), q ≤ P.length ∧ j = .int .i64 q ∧ wr.ownsRow (w.heap.size + 1) 66 5 v (zG ((P.zip V).take q) id).length (cellsP (zG ((P.zip V).take q) id)) ∧ (zG ((P.zip V).take q) id).length ≤ q ∧
  Below (w.heap.size + 1) (w.alloc (cL o1 o2 o3 n1 c1 P.length c2 V.length c3 92)) wr) (fun _ j _ => P.length - (intOf j).toNat)
 case atStart => exact ⟨0, Nat.zero_le _, rfl, World.ownsRow_nil _ _ _ _, by simp [zG], Below.refl _ _⟩
 case round =>
  obtain ⟨q, hq, rfl, hown, hql, hbr⟩ := hrel
  have d0 : wr.cell? ⟨w.heap.size, 0, none⟩ = some (.slice o1 n1 c1) := by rw [hbr.cell (p := ⟨w.heap.size, 0, none⟩) (show w.heap.size < w.heap.size + 1 by omega)]; simp [go_sem]
  have d1 : wr.cell? ⟨w.heap.size, 1, none⟩ = some (.slice o2 P.length c2) := by rw [hbr.cell (p := ⟨w.heap.size, 1, none⟩) (show w.heap.size < w.heap.size + 1 by omega)]; simp [go_sem]
  have d2 : wr.cell? ⟨w.heap.size, 2, none⟩ = some (.slice o3 V.length c3) := by rw [hbr.cell (p := ⟨w.heap.size, 2, none⟩) (show w.heap.size < w.heap.size + 1 by omega)]; simp [go_sem]
  have hsz : w.heap.size < wr.heap.size := World.block_lt_of_cell? wr ⟨w.heap.size, 0, none⟩ d0
  have HB := zA (show Below w.heap.size w wr from ((Below.refl _ _).alloc (Nat.le_refl _) _).trans (hbr.mono (by omega)))
  by_cases hlt : q < P.length
  ·obtain ⟨p, hp⟩ : ∃ p, P[q]? = some p := ⟨P[q], by simp [hlt]⟩
   obtain ⟨v, hv⟩ : ∃ v, V[q]? = some v := ⟨V[q]'(by have := HLV.out; omega), by simp⟩
   have HS : Hid (zG ((P.zip V).take (q + 1)) id = if (p.a == id && v == 1) = true then zG ((P.zip V).take q) id ++ [p] else zG ((P.zip V).take q) id) := by
    show _ = _
    have : (P.zip V)[q]? = some (p, v) := by rw [List.getElem?_zip_eq_some]; exact ⟨hp, hv⟩
    rw [List.take_add_one, this, Option.toList_some, ridesL_snoc]
   obtain ⟨A, rfl, e0, e1, e2, e3, e4⟩ := (HP.out.below HB.out) q p hp
   obtain ⟨A3, rfl, f0⟩ := (HV.out.below HB.out) q v hv
   have hA : (A.add (q * 5)).block < wr.heap.size := World.block_lt_of_cell? wr (A.add (q * 5)) e0
   have hA3 : (A3.add q).block < wr.heap.size := World.block_lt_of_cell? wr (A3.add q) f0
   have hvl : q < V.length := by have := HLV.out; omega
   clear hp hv
   generalize zG ((P.zip V).take q) id = R at *
   cases h1 : (p.a == id)
   ·have e := HS.out
    rw [h1] at e
    simp only [Bool.false_and, Bool.false_eq_true, if_false] at e
    have HE := zA e
    clear e
    go_wp2_with fail
    refine ⟨⟨q + 1, by omega, by simp, ?_, ?_, hbr.alloc (by omega) _⟩, by simp [intOf]; omega⟩
    ·rw [HE.out]; exact hown.alloc _
    ·rw [HE.out]; omega
   ·cases h2 : (v == 1)
    ·have e := HS.out
     rw [h1, h2] at e
     simp only [Bool.and_false, Bool.false_eq_true, if_false] at e
     have HE := zA e
     clear e
     go_wp2_with fail
     refine ⟨⟨q + 1, by omega, by simp, ?_, ?_, hbr.alloc (by omega) _⟩, by simp [intOf]; omega⟩
     ·rw [HE.out]; exact hown.alloc _
     ·rw [HE.out]; omega
    ·have e := HS.out
     rw [h1, h2] at e
     simp only [Bool.and_true, if_true] at e
     have HE := zA e
     clear e
     have HN : Hid (∀ j u, [Value.int .i64 p.a, .int .i64 p.g, .int .i64 p.s, .int .i64 p.m, .int .i64 p.z][j]? = some u → ((wr.alloc (cP p.a p.g p.s p.m p.z 66)).alloc (cP p.a p.g p.s p.m p.z 66)).cell? ((⟨wr.heap.size + 1, 0, none⟩ : Addr).add j) = some u) := by
      have h := five_new (wr.alloc (cP p.a p.g p.s p.m p.z 66)) p.a p.g p.s p.m p.z 66
      rw [show (wr.alloc (cP p.a p.g p.s p.m p.z 66)).heap.size = wr.heap.size + 1 by simp] at h
      exact h
     go_wp2_with (at_builtin; refine wpList_append_own _ rfl (.tmp 30) (.tmp 32) 23 rfl (w.heap.size + 1) 66 i0 _ 5 40 Tryz.underlying23 hi hz0 hz1 hz2 rfl (by decide) _ R.length _ rfl ((hown.alloc _).alloc _) ⟨wr.heap.size + 1, 0, none⟩ 1 1 [.int .i64 p.a, .int .i64 p.g, .int .i64 p.s, .int .i64 p.m, .int .i64 p.z] rfl rfl HN.out (by intro u hu; simp at hu; rcases hu with rfl | rfl | rfl | rfl | rfl <;> rfl) (by unfold maxLen; omega) (by omega) (by simp; omega) ?_; intro v1 w1 hown1 hgrow1 _)
     refine ⟨⟨q + 1, by omega, by simp, ?_, ?_, ((hbr.alloc (by omega) _).alloc (by simp; omega) _).grown hgrow1 (by simp; omega) (fun k hk => (hown.lt k hk).1)⟩, by simp [intOf]; omega⟩
     ·rw [HE.out, cellsP_snoc, List.length_append]; exact hown1
     ·rw [HE.out, List.length_append]; simp; omega
  ·obtain rfl : q = P.length := by omega
   rw [List.take_of_length_le (by rw [List.length_zip]; omega)] at hown
   obtain ⟨-, o, cap, rfl, hta⟩ := taps_own hown
   have HO := zA hta
   clear hown hta
   go_wp2_with fail
   go_ret
   exact ⟨⟨o, cap, rfl, HO.out⟩, HB.out⟩
theorem hasT_pos {T : List TK} {id : Int} (hr : Rising T) (h : yF T id = true) : ∃ x, T[posT T id]? = some x ∧ x.i = id ∧ idxT T id = posT T id := by
 rw [yF, List.any_eq_true] at h
 obtain ⟨x, hx, hid⟩ := h
 have hid : x.i = id := by simpa using hid
 obtain ⟨n, hn⟩ := List.mem_iff_getElem?.1 hx
 have hp : posT T id = n := posT_of (Nat.le_of_lt (List.getElem?_eq_some_iff.1 hn).1) (fun q y hy hq => by have := hr q n y x hy hn hq; omega) (fun q y hy hq => by
  rcases Nat.lt_or_ge n q with h | h
  ·have := hr n q x y hn hy h; omega
  ·obtain rfl : q = n := by omega
   rw [hn] at hy; cases hy; omega)
 refine ⟨x, by rw [hp]; exact hn, hid, ?_⟩
 rw [hp]
 exact idxT_some hn hid (fun j hj y hy => by have := hr j n y x hy hn hj; omega)
theorem hasT_idx {T : List TK} {id : Int} : (idxT T id < 0) ↔ yF T id = false := by
 constructor
 ·intro h
  rw [yF, List.any_eq_false]
  intro x hx
  unfold idxT at h
  split at h
  ·omega
  ·rename_i hn
   rw [List.findIdx?_eq_none_iff] at hn
   simpa using hn x hx
 ·intro h
  rw [yF, List.any_eq_false] at h
  rw [idxT_none (fun j p hj => by simpa using h p (List.mem_of_getElem? hj))]
  decide
theorem many_rides (X : List (TP × Int)) (id : Int) : yA X id = (((zG X id).length : Int), yW (zG X id)) := by
 have key : ∀ n, yA (X.take n) id = (((zG (X.take n) id).length : Int), yW (zG (X.take n) id)) := by
  intro n
  induction n with
  | zero => rfl
  | succ n ih =>
   rw [List.take_add_one]
   cases hx : X[n]? with
   | none => simpa using ih
   | some x =>
    rw [Option.toList_some, many_snoc, ridesL_snoc, ih]
    by_cases h : (x.1.a == id && x.2 == 1) = true
    ·have h' : x.1.a = id ∧ x.2 = 1 := by simpa using h
     rw [if_pos h', if_pos h]
     simp [yW]
    ·have h' : ¬ (x.1.a = id ∧ x.2 = 1) := by simpa using h
     rw [if_neg h', if_neg h]
 have := key X.length
 rwa [List.take_length] at this
theorem ridesL_mem {X : List (TP × Int)} {id : Int} {x : TP} (h : x ∈ zG X id) : x.a = id ∧ ∃ v, (x, v) ∈ X := by
 simp only [zG, List.mem_map, List.mem_filter] at h
 obtain ⟨y, ⟨hy, hc⟩, rfl⟩ := h
 simp at hc
 exact ⟨hc.1, y.2, hy⟩
theorem ridesL_len (X : List (TP × Int)) (id : Int) : (zG X id).length ≤ X.length := by
 rw [zG, List.length_map]
 exact List.length_filter_le _ _
def judB (T : List TK) (X : List (TP × Int)) (p : TP) : Int × Int :=
 judgeV (T.getD (posT T p.a) tk0).i (T.getD (posT T p.a) tk0).k (T.getD (posT T p.a) tk0).f (T.getD (posT T p.a) tk0).t (T.getD (posT T p.a) tk0).z (T.getD (posT T p.a) tk0).r (zG X p.a).length p (zG X p.a)
theorem firstE_of (l : List Int) (h : ∀ x ∈ l, x = 0) : zB l = 0 := by
 induction l with
 | nil => rfl
 | cons e l ih =>
  simp only [zB]
  rw [if_pos (h e (by simp))]
  exact ih fun x hx => h x (by simp [hx])
theorem judB_verd {T : List TK} {P : List TP} {V : List Int} {i : Nat} {p : TP} (hr : Rising T) (hT : ∀ x ∈ T, chkK x = 0) (hP : ∀ x ∈ P.take i, zS x = 0) (hi : i ≤ 60) (h1 : zS p = 0) (h2 : yF T p.a = true) :
  judB T ((P.zip V).take i) p = verd T P V i p := by
 obtain ⟨x, hx, hid, hidx⟩ := hasT_pos hr h2
 have hg : T.getD (posT T p.a) tk0 = x := by simp [List.getD, hx]
 have hE : errJ x.i x.k x.f x.t x.z x.r ((zG ((P.zip V).take i) p.a).length : Int) p (zG ((P.zip V).take i) p.a) = 0 := by
  have hm : ∀ y ∈ zG ((P.zip V).take i) p.a, zS y = 0 := by
   intro y hy
   obtain ⟨_, v, hv⟩ := ridesL_mem hy
   refine hP y ?_
   obtain ⟨j, hj⟩ := List.mem_iff_getElem?.1 hv
   rw [List.getElem?_take] at hj
   split at hj
   ·rename_i hji
    rw [List.getElem?_zip_eq_some] at hj
    exact List.mem_iff_getElem?.2 ⟨j, by rw [List.getElem?_take, if_pos hji]; exact hj.1⟩
   ·cases hj
  rw [errJ_end _ _ _ _ _ _ _ _ _ (hT x (List.mem_of_getElem? hx)) h1 ?_ (firstE_of _ ?_), if_neg]
  ·rw [hid]
   simp only [bne_self_eq_false, Bool.false_or, List.any_eq_true, not_exists, not_and]
   intro y hy
   simp [(ridesL_mem hy).1]
  ·rw [yH]
   have := ridesL_len ((P.zip V).take i) p.a
   rw [List.length_take] at this
   omega
  ·intro y hy
   obtain ⟨z, hz, rfl⟩ := List.mem_map.1 hy
   exact hm z hz
 unfold judB verd
 rw [hg, hidx, many_rides, show ((posT T p.a : Int)).toNat = posT T p.a from rfl, hg, judgeV, if_neg (by simpa using hE)]
theorem bookJudge_any (T : List TK) (P : List TP) (V : List Int) (o1 o2 o3 : Option Addr) (c1 c2 c3 : Nat) (a g s m z : Int) (w : World) (hT : zH w o1 T) (hP : zD w o2 P) (hV : zF w o3 V) (hlen : T.length ≤ 12) (hlen2 : P.length ≤ 60) (hlv : V.length = P.length)
  (hr : Rising T) (hh : yF T a = true) :
  Calls Tryz.prog 99 #[lg o1 o2 o3 T.length c1 P.length c2 V.length c3, tp a g s m z] w fun e w' => e = .returned (.tuple #[.int .i64 (judB T (P.zip V) ⟨a, g, s, m, z⟩).1, .int .i64 (judB T (P.zip V) ⟨a, g, s, m, z⟩).2]) ∧ Below w.heap.size w w' := by
 obtain ⟨x, hx, -, -⟩ := hasT_pos hr hh
 have HT := zA hT
 have HPl := zA (fun W (h : zH W o1 T) => place_any T a o1 o2 o3 c1 P.length c2 V.length c3 W h hlen hr)
 have HRi := zA (fun W (h : zD W o2 P) (h' : zF W o3 V) => rides_any P V a o1 o2 o3 T.length c1 c2 c3 W h h' hlen2 hlv)
 have HP := zA hP
 have HV := zA hV
 have HRl := zA (show (zG (P.zip V) a).length ≤ 60 by have := ridesL_len (P.zip V) a; rw [List.length_zip] at this; omega)
 have hpos : posT T a < T.length := (List.getElem?_eq_some_iff.1 hx).1
 have HX := zA hx
 have HJ : Hid (judB T (P.zip V) ⟨a, g, s, m, z⟩ = judgeV x.i x.k x.f x.t x.z x.r (zG (P.zip V) a).length ⟨a, g, s, m, z⟩ (zG (P.zip V) a)) := by
  show _ = _
  have hg : T.getD (posT T a) tk0 = x := by simp [List.getD, hx]
  unfold judB
  simp only [hg]
 clear hT hP hV hr hh hx hlv
 rw [HJ.out]
 clear HJ
 generalize yF T a = hb0 at HPl
 generalize posT T a = n at *
 generalize zG (P.zip V) a = R at *
 go_enter Tryz.func99, Tryz.ntmps99
 go_wp2_with fail
 refine (HPl.out _ (HT.out.below ?_)).mono ?_
 ·repeat (first | with_reducible exact Below.refl _ _ | with_reducible refine Below.alloc ?_ (by simp; try omega) _ | with_reducible refine Below.setCell ?_ (by simp; try omega) _)
 rintro e w1 ⟨rfl, hb1⟩
 have HB1 := zA (boxesB_of _ _ _ _ _ _ _ _ _ _ _ _ _ _ _ _ _ _ hb1)
 clear hb1
 obtain ⟨⟨x0, x1, x2⟩, ⟨y0, y1, y2, y3, y4⟩, -, -⟩ := HB1.out
 simp only [Nat.zero_add] at x0 x1 x2 y0 y1 y2 y3 y4
 go_wp2_with fail
 refine (HRi.out _ (HP.out.below HB1.out.2.2.2) (HV.out.below HB1.out.2.2.2)).mono ?_
 rintro e w2 ⟨⟨o, cap, rfl, hR⟩, hb2⟩
 have HR := zA hR
 have HB2 := zA (HB1.out.on hb2)
 clear hb2 HB1 x0 x1 x2 y0 y1 y2 y3 y4 hR
 go_wp2_with fail
 obtain ⟨⟨x0, x1, x2⟩, ⟨y0, y1, y2, y3, y4⟩, -, hB⟩ := HB2.out
 simp only [Nat.zero_add] at x0 x1 x2 y0 y1 y2 y3 y4
 obtain ⟨A, rfl, z0, z1, z2, z3, z4, z5⟩ := (HT.out.below hB) n x HX.out
 have k0 := cell_regrown x0
 have k1 := cell_regrown x1
 have k2 := cell_regrown x2
 have l0 := cell_regrown y0
 have l1 := cell_regrown y1
 have l2 := cell_regrown y2
 have l3 := cell_regrown y3
 have l4 := cell_regrown y4
 have m0 := cell_regrown z0
 have m1 := cell_regrown z1
 have m2 := cell_regrown z2
 have m3 := cell_regrown z3
 have m4 := cell_regrown z4
 have m5 := cell_regrown z5
 have hRl := HRl.out
 have cJ : ∀ d os, Calls Tryz.prog 117 #[tk x.i x.k x.f x.t x.z x.r, .slice o R.length cap, .int .i64 (R.length : Int), tp a g s m z] (Sort.grow (redrawn w2 d) os) fun e w'' => e = .returned (.tuple #[.int .i64 (judgeV x.i x.k x.f x.t x.z x.r R.length ⟨a, g, s, m, z⟩ R).1, .int .i64 (judgeV x.i x.k x.f x.t x.z x.r R.length ⟨a, g, s, m, z⟩ R).2]) ∧ ∃ p : Regrown, w'' = Sort.grow (redrawn w2 p.d) p.os :=
  fun d os => Calls.regrown_of (judge_any x.i x.k x.f x.t x.z x.r R.length a g s m z o cap R _ (HR.out.below (below_regrown w2 d os)) (by omega))
 generalize hJ : judgeV x.i x.k x.f x.t x.z x.r R.length ⟨a, g, s, m, z⟩ R = J at cJ
 have HJ := zA hJ
 clear hJ
 clear x0 x1 x2 y0 y1 y2 y3 y4 z0 z1 z2 z3 z4 z5 HB2 HRi HPl HT HV HP HRl HX
 refine wp_region_quiet_below (by kernel_rfl) (by kernel_rfl) ?_
 repeat (quiet_step (exact cJ _ _))
 refine wpQuiet_nil ?_
 intro _ hw'
 obtain ⟨⟨dq, osq⟩, hw''⟩ := hw'
 subst hw''
 go_wp2
 go_ret2
 exact ⟨by rw [HJ.out]; rfl, hB.trans ((below_regrown w2 dq osq).mono hB.size)⟩
theorem ahead_any (o1 : Option Addr) (A A3 : Addr) (n1 c1 n2 c2 n3 c3 q : Nat) (w : World) (h2 : q ≤ c2) (h3 : q ≤ c3) (_hq : q ≤ 60) :
  Calls Tryz.prog 72 #[lg o1 (some A) (some A3) n1 c1 n2 c2 n3 c3, .int .i64 (q : Int)] w fun e w' => e = .returned (lg o1 (some A) (some A3) n1 c1 q c2 q c3) ∧ Below w.heap.size w w' := by
 go_enter Tryz.func72, Tryz.ntmps72
 go_wp2_with fail
 go_region
 go_wp2_with fail
 refine bodyPost_ret (v := lg o1 (some A) (some A3) n1 c1 q c2 q c3) (by simp [results, Tryz.results72, go_sem]) rfl ⟨rfl, ?_⟩
 exact (((Below.refl _ _).alloc (Nat.le_refl _) _).alloc (by simp) _).drew
theorem zD.take {w : World} {o : Option Addr} {L : List TP} (h : zD w o L) (n : Nat) : zD w o (L.take n) := fun i p hi => by
 rw [List.getElem?_take] at hi
 split at hi
 ·exact h i p hi
 ·cases hi
theorem zF.take {w : World} {o : Option Addr} {L : List Int} (h : zF w o L) (n : Nat) : zF w o (L.take n) := fun i p hi => by
 rw [List.getElem?_take] at hi
 split at hi
 ·exact h i p hi
 ·cases hi
def tapE (T : List TK) (P : List TP) (V : List Int) (p : TP) (yN : Int) : Int :=
 zB [unf T P p, if wi yN 1 2 = true then 0 else 7, if yZ P p.m = true then 4 else 0, if (judB T (P.zip V) p).1 = yN then 0 else 4]
theorem unf_has {T : List TK} {P : List TP} {p : TP} (h : unf T P p = 0) : zS p = 0 ∧ yF T p.a = true ∧ yE P p = false := by
 have h0 := yS _ h
 refine ⟨h0 _ (by simp), ?_, ?_⟩
 ·have := h0 (if yF T p.a = true then 0 else 5) (by simp)
  cases hc : yF T p.a
  ·simp [hc] at this
  ·rfl
 ·have := h0 (if yE P p = true then 6 else 0) (by simp)
  cases hc : yE P p
  ·rfl
  ·simp [hc] at this
theorem checkTapB_any (T : List TK) (P : List TP) (V : List Int) (o1 o2 o3 : Option Addr) (c1 c2 c3 : Nat) (a g s m z yN : Int) (w : World) (hT : zH w o1 T) (hP : zD w o2 P) (hV : zF w o3 V) (hlen : T.length ≤ 12) (hlen2 : P.length ≤ 60) (hlv : V.length = P.length)
  (hr : Rising T) :
  Calls Tryz.prog 73 #[lg o1 o2 o3 T.length c1 P.length c2 V.length c3, tp a g s m z, .int .i64 yN] w fun e w' => e = .returned (.int .i64 (tapE T P V ⟨a, g, s, m, z⟩ yN)) ∧ Below w.heap.size w w' := by
 have HT := zA hT
 have HP := zA hP
 have HV := zA hV
 have HU := zA (fun W (h : zH W o1 T) (h' : zD W o2 P) => unfit_any T P o1 o2 o3 c1 c2 V.length c3 a g s m z W h h' hlen hlen2 hr)
 have HE := zA (fun W (h' : zD W o2 P) => early_any P o1 o2 o3 T.length c1 c2 V.length c3 a g s m z W h' hlen2)
 have HJ := zA (fun W (hh : yF T a = true) (h : zH W o1 T) (h' : zD W o2 P) (h'' : zF W o3 V) => bookJudge_any T P V o1 o2 o3 c1 c2 c3 a g s m z W h h' h'' hlen hlen2 hlv hr hh)
 have hh : unf T P ⟨a, g, s, m, z⟩ = 0 → yF T a = true := fun h => (unf_has h).2.1
 clear hT hP hV hlv hr
 generalize hX : tapE T P V ⟨a, g, s, m, z⟩ yN = X
 unfold tapE at hX
 generalize unf T P ⟨a, g, s, m, z⟩ = U at *
 generalize judB T (P.zip V) ⟨a, g, s, m, z⟩ = J at *
 generalize yF T a = hs at *
 simp only [] at hX
 generalize yZ P m = E at *
 have hc : ((U != 0) = true ∧ X = U) ∨ (U = 0 ∧ (yN != 1) = true ∧ (yN != 2) = true ∧ X = 7) ∨
   (U = 0 ∧ ((yN != 1) = false ∨ ((yN != 1) = true ∧ (yN != 2) = false)) ∧ E = true ∧ X = 4) ∨
   (U = 0 ∧ ((yN != 1) = false ∨ ((yN != 1) = true ∧ (yN != 2) = false)) ∧ E = false ∧ (J.1 != yN) = true ∧ X = 4) ∨
   (U = 0 ∧ ((yN != 1) = false ∨ ((yN != 1) = true ∧ (yN != 2) = false)) ∧ E = false ∧ (J.1 != yN) = false ∧ X = 0) := by
  rw [← hX]
  by_cases h1 : U = 0
  ·by_cases h2 : yN = 1 ∨ yN = 2
   ·have hw : wi yN 1 2 = true := by rw [yH]; omega
    cases E
    ·by_cases h3 : J.1 = yN
     ·simp [zB, h1, hw, h3]; omega
     ·simp [zB, h1, hw, h3]; omega
    ·simp [zB, h1, hw]; omega
   ·have hw : wi yN 1 2 = false := by
     cases hw : wi yN 1 2
     ·rfl
     ·rw [yH] at hw; omega
    have h2' : yN ≠ 1 ∧ yN ≠ 2 := by omega
    simp [zB, h1, hw, h2'.1, h2'.2]
  ·simp [zB, h1]
 clear hX
 rcases hc with ⟨h1, rfl⟩ | ⟨rfl, h2, h3, rfl⟩ | ⟨rfl, h2, rfl, rfl⟩ | ⟨rfl, h2, rfl, h3, rfl⟩ | ⟨rfl, h2, rfl, h3, rfl⟩
 rotate_left 2
 all_goals try (rcases h2 with h2 | ⟨h2, h2'⟩)
 rotate_left 6
 all_goals
  go_enter Tryz.func73, Tryz.ntmps73
  go_wp2_with fail
  refine (HU.out _ (HT.out.below ?_) (HP.out.below ?_)).mono ?_
  ·repeat (first | with_reducible exact Below.refl _ _ | with_reducible refine Below.alloc ?_ (by simp; try omega) _ | with_reducible refine Below.setCell ?_ (by simp; try omega) _)
  ·repeat (first | with_reducible exact Below.refl _ _ | with_reducible refine Below.alloc ?_ (by simp; try omega) _ | with_reducible refine Below.setCell ?_ (by simp; try omega) _)
  rintro e w1 ⟨rfl, hb1⟩
  have HB1 := zA (boxesB_of _ _ _ _ _ _ _ _ _ _ _ _ _ _ _ _ _ _ hb1)
  clear hb1
  obtain ⟨⟨x0, x1, x2⟩, ⟨y0, y1, y2, y3, y4⟩, -, -⟩ := HB1.out
  simp only [Nat.zero_add] at x0 x1 x2 y0 y1 y2 y3 y4
  go_wp2_with fail
 ·go_ret
  exact ⟨rfl, HB1.out.2.2.2⟩
 ·go_ret
  exact ⟨rfl, HB1.out.2.2.2⟩
 all_goals
  refine (HE.out _ (HP.out.below HB1.out.2.2.2)).mono ?_
  rintro e w2 ⟨rfl, hb2⟩
  have HB2 := zA (HB1.out.on hb2)
  clear hb2 HB1 x0 x1 x2 y0 y1 y2 y3 y4
  obtain ⟨⟨x0, x1, x2⟩, ⟨y0, y1, y2, y3, y4⟩, -, -⟩ := HB2.out
  simp only [Nat.zero_add] at x0 x1 x2 y0 y1 y2 y3 y4
  go_wp2_with fail
 ·go_ret
  exact ⟨rfl, HB2.out.2.2.2⟩
 ·go_ret
  exact ⟨rfl, HB2.out.2.2.2⟩
 all_goals
  refine (HJ.out _ (hh trivial) (HT.out.below HB2.out.2.2.2) (HP.out.below HB2.out.2.2.2) (HV.out.below HB2.out.2.2.2)).mono ?_
  rintro e w3 ⟨rfl, hb3⟩
  have HB3 := zA (HB2.out.on hb3)
  clear hb3 HB2 x0 x1 x2 y0 y1 y2 y3 y4
  go_wp2_with fail
  go_ret
  exact ⟨rfl, HB3.out.2.2.2⟩
def yL (T : List TK) : Int := zB ((List.range T.length).map (errK T))
theorem ticksE_at {T : List TK} {q : Nat} (h : ∀ j, j < q → errK T j = 0) (hq : q < T.length) (hne : errK T q ≠ 0) : yL T = errK T q := by
 rw [yL, ← List.append_nil ((List.range T.length).map _)]
 exact firstE_at _ _ _ _ h hq hne
theorem ticksE_ok {T : List TK} (h : ∀ j, j < T.length → errK T j = 0) : yL T = 0 := by
 rw [yL, ← List.append_nil ((List.range T.length).map _), firstE_all _ _ _ h]; rfl
theorem ticksE_all {T : List TK} (h : yL T = 0) : ∀ j, j < T.length → errK T j = 0 := fun j hj => yS _ h _ (List.mem_map.2 ⟨j, List.mem_range.2 hj, rfl⟩)
theorem errK_parts {T : List TK} {q : Nat} {p : TK} (hp : T[q]? = some p) (h : errK T q = 0) : chkK p = 0 ∧ ¬ (0 < q ∧ p.i ≤ (T.getD (q - 1) tk0).i) := by
 rcases errK_cases hp with ⟨h1, h2⟩ | ⟨h1, h2, h3, h4⟩ | ⟨h1, h2, h3⟩
 ·exact absurd (h2.symm.trans h) h1
 ·omega
 ·exact ⟨h1, h2⟩
theorem zW {T : List TK} (h : yL T = 0) : Rising T := by
 have h0 := ticksE_all h
 have step : ∀ (n : Nat) (x y : TK), T[n]? = some x → T[n + 1]? = some y → x.i < y.i := by
  intro n x y hx hy
  have h1 := (errK_parts hy (h0 _ (List.getElem?_eq_some_iff.1 hy).1)).2
  rw [show T.getD (n + 1 - 1) tk0 = x by simp [List.getD, hx]] at h1
  omega
 intro p q x y hx hy hpq
 obtain ⟨d, rfl⟩ : ∃ d, q = p + 1 + d := ⟨q - (p + 1), by omega⟩
 clear hpq
 induction d generalizing y with
 | zero => exact step p x y hx hy
 | succ d ih =>
  obtain ⟨z, hz⟩ : ∃ z, T[p + 1 + d]? = some z := ⟨T[p + 1 + d]'(by have := (List.getElem?_eq_some_iff.1 hy).1; omega), by simp⟩
  have := ih z hz
  have := step (p + 1 + d) z y hz hy
  omega
theorem yG {T : List TK} (h : yL T = 0) : ∀ x ∈ T, chkK x = 0 := by
 intro x hx
 obtain ⟨n, hn⟩ := List.mem_iff_getElem?.1 hx
 exact (errK_parts hn (ticksE_all h n (List.getElem?_eq_some_iff.1 hn).1)).1
def lastId (T : List TK) (q : Nat) : Int := if q = 0 then 0 else (T.getD (q - 1) tk0).i
theorem errK_ways {T : List TK} {q : Nat} {p : TK} (hp : T[q]? = some p) : ((chkK p != 0) = true ∧ errK T q = chkK p ∧ errK T q ≠ 0) ∨ (chkK p = 0 ∧ p.i ≤ lastId T q ∧ errK T q = 4) ∨ (chkK p = 0 ∧ ¬ p.i ≤ lastId T q ∧ errK T q = 0) := by
 rcases errK_cases hp with ⟨h1, h2⟩ | ⟨h1, h2, h3, h4⟩ | ⟨h1, h2, h3⟩
 ·exact Or.inl ⟨by simpa using h1, h2, by rw [h2]; exact h1⟩
 ·exact Or.inr (Or.inl ⟨h1, by rw [lastId, if_neg (by omega)]; exact h3, h4⟩)
 ·refine Or.inr (Or.inr ⟨h1, ?_, h3⟩)
  rw [lastId]
  split
  ·have := (chk_right h1).1; omega
  ·omega
theorem checkTickets_any (T : List TK) (o1 o2 o3 : Option Addr) (c1 n2 c2 n3 c3 : Nat) (w : World) (hT : zH w o1 T) (hlen : T.length ≤ 12) :
  Calls Tryz.prog 45 #[lg o1 o2 o3 T.length c1 n2 c2 n3 c3] w fun e w' => e = .returned (.int .i64 (yL T)) ∧ Below w.heap.size w w' := by
 have HT := zA hT
 clear hT
 have HA := zA (fun q (h1 : ∀ j, j < q → errK T j = 0) (h2 : q < T.length) (h3 : errK T q ≠ 0) => ticksE_at h1 h2 h3)
 have HO := zA (fun (h1 : ∀ j, j < T.length → errK T j = 0) => ticksE_ok h1)
 generalize yL T = R at *
 go_enter Tryz.func45, Tryz.ntmps45
 go_wp2_with fail
 go_loopw [3, 11] (fun l j wr => ∃ (q : Nat), q ≤ T.length ∧ j = .int .i64 q ∧ l = .int .i64 (lastId T q) ∧ Hid (∀ j, j < q → errK T j = 0) ∧ Below w.heap.size w wr) (fun _ j _ => T.length - (intOf j).toNat)
 case atStart => exact ⟨0, Nat.zero_le _, rfl, rfl, fun j hj => by omega, (Below.refl _ _).alloc (Nat.le_refl _) _⟩
 case round =>
  obtain ⟨q, hq, rfl, rfl, hF, hbr⟩ := hrel
  by_cases hgo : q < T.length
  ·obtain ⟨p, hp⟩ : ∃ p, T[q]? = some p := ⟨T[q], by simp [hgo]⟩
   have hsz := hbr.size
   have hw := errK_ways hp
   have HL : Hid (lastId T (q + 1) = p.i) := by
    show _ = _
    rw [lastId, if_neg (by omega), Nat.add_sub_cancel]
    simp [List.getD, hp]
   obtain ⟨A, rfl, e0, e1, e2, e3, e4, e5⟩ := (HT.out.below hbr) q p hp
   clear hp
   generalize lastId T q = l at *
   go_wp2_with fail
   refine (check_any _ _ _ _ _ _ _).mono ?_
   rintro e w3 ⟨rfl, hb3⟩
   have HB3 : Hid (Below w.heap.size w w3) := by
    refine zA (Below.trans ?_ (hb3.mono ?_))
    ·exact hbr.alloc hsz _
    ·simp; omega
   have hcell : w3.cell? ⟨wr.heap.size, 0, none⟩ = some (.int .i64 p.i) := by
    rw [hb3.cell (p := ⟨wr.heap.size, 0, none⟩) (by simp)]
    simp [go_sem]
   clear hb3 hbr e0 e1 e2 e3 e4 e5
   have hk : chk p.i p.k p.f p.t p.z p.r = chkK p := rfl
   rw [hk]
   clear hk
   generalize chkK p = X at *
   rcases hw with ⟨h1, h2, h3⟩ | ⟨rfl, h2, h3⟩ | ⟨rfl, h2, h3⟩
   ·have HR := zA ((HA.out q hF.out hgo h3).trans h2)
    clear h3 h2
    go_wp2_with fail
    go_ret
    exact ⟨by rw [HR.out]; rfl, HB3.out⟩
   ·have HR := zA ((HA.out q hF.out hgo (by omega)).trans h3)
    clear h3
    go_wp2_with fail
    go_ret
    exact ⟨by rw [HR.out]; rfl, HB3.out⟩
   ·have HN : Hid (∀ j, j < q + 1 → errK T j = 0) := fun j hj => by
     rcases Nat.lt_or_ge j q with h | h
     ·exact hF.out j h
     ·obtain rfl : j = q := by omega
      exact h3
    clear h3
    go_wp2_with fail
    exact ⟨⟨q + 1, by omega, by simp, by rw [HL.out], HN, HB3.out⟩, by simp [intOf]; omega⟩
  ·obtain rfl : q = T.length := by omega
   have HR := zA (HO.out hF.out)
   go_wp2_with fail
   go_ret
   exact ⟨by rw [HR.out]; rfl, hbr⟩
def tapsE (T : List TK) (P : List TP) (V : List Int) : Int := zB ((List.range P.length).map (errP T P V))
theorem tapsE_at {T : List TK} {P : List TP} {V : List Int} {q : Nat} (h : ∀ j, j < q → errP T P V j = 0) (hq : q < P.length) (hne : errP T P V q ≠ 0) : tapsE T P V = errP T P V q := by
 rw [tapsE, ← List.append_nil ((List.range P.length).map _)]
 exact firstE_at _ _ _ _ h hq hne
theorem tapsE_ok {T : List TK} {P : List TP} {V : List Int} (h : ∀ j, j < P.length → errP T P V j = 0) : tapsE T P V = 0 := by
 rw [tapsE, ← List.append_nil ((List.range P.length).map _), firstE_all _ _ _ h]; rfl
theorem errP_chk {T : List TK} {P : List TP} {V : List Int} {j : Nat} {p : TP} (hp : P[j]? = some p) (h : errP T P V j = 0) : zS p = 0 := by
 have := yS _ h (zS (P.getD j tp0)) (by simp)
 rwa [show P.getD j tp0 = p by simp [List.getD, hp]] at this
theorem zip_take (P : List TP) (V : List Int) (q : Nat) : (P.take q).zip (V.take q) = (P.zip V).take q := by
 show List.zipWith Prod.mk (P.take q) (V.take q) = (List.zipWith Prod.mk P V).take q
 rw [List.take_zipWith]
theorem early_at {P : List TP} {q : Nat} (m : Int) (hq : q ≤ P.length) : yZ (P.take q) m = decide (0 < q ∧ m < (P.getD (q - 1) tp0).m) := by
 unfold yZ
 rw [List.getLast?_eq_getElem?, List.length_take, Nat.min_eq_left hq]
 rcases q with _ | n
 ·simp
 ·obtain ⟨x, hx⟩ : ∃ x, P[n]? = some x := ⟨P[n]'(by omega), by simp⟩
  rw [Nat.add_sub_cancel, List.getElem?_take, if_pos (by omega), hx]
  simp [List.getD, hx]
theorem tapE_errP {T : List TK} {P : List TP} {V : List Int} {q : Nat} {p : TP} {v : Int} (hr : Rising T) (hT : ∀ x ∈ T, chkK x = 0) (hq : q ≤ 60) (hP : ∀ x ∈ P.take q, zS x = 0) (hp : P[q]? = some p) (hv : V[q]? = some v) :
  tapE T (P.take q) (V.take q) p v = errP T P V q := by
 have gp : P.getD q tp0 = p := by simp [List.getD, hp]
 have gv : V.getD q 0 = v := by simp [List.getD, hv]
 unfold tapE errP
 rw [gp, gv, early_at p.m (Nat.le_of_lt (List.getElem?_eq_some_iff.1 hp).1), zip_take]
 by_cases h1 : zS p = 0
 ·cases h2 : yF T p.a
  ·have hi := hasT_idx.2 h2
   simp [unf, zB, h1, h2, hi]
  ·have hi : ¬ idxT T p.a < 0 := fun h => by rw [hasT_idx.1 h] at h2; cases h2
   rw [judB_verd hr hT hP hq h1 h2]
   cases h3 : yE (P.take q) p
   ·simp [unf, zB, h1, h2, hi, h3]
   ·simp [unf, zB, h1, h2, hi, h3]
 ·simp [unf, zB, h1]
theorem checkTaps_any (T : List TK) (P : List TP) (V : List Int) (o1 o2 o3 : Option Addr) (c1 c2 c3 : Nat) (w : World) (hT : zH w o1 T) (hP : zD w o2 P) (hV : zF w o3 V) (hlen : T.length ≤ 12) (hlen2 : P.length ≤ 60) (hlv : V.length = P.length)
  (hc2 : P.length ≤ c2) (hc3 : V.length ≤ c3) (hE : yL T = 0) :
  Calls Tryz.prog 46 #[lg o1 o2 o3 T.length c1 P.length c2 V.length c3] w fun e w' => e = .returned (.int .i64 (tapsE T P V)) ∧ Below w.heap.size w w' := by
 have hr := zW hE
 have hck := yG hE
 have HA := zA (fun q (h1 : ∀ j, j < q → errP T P V j = 0) (h2 : q < P.length) (h3 : errP T P V q ≠ 0) => tapsE_at h1 h2 h3)
 have HO := zA (fun (h1 : ∀ j, j < P.length → errP T P V j = 0) => tapsE_ok h1)
 have HQ := zA (fun q p v (h1 : ∀ j, j < q → errP T P V j = 0) (hp : P[q]? = some p) (hv : V[q]? = some v) => (tapE_errP hr hck (by have := (List.getElem?_eq_some_iff.1 hp).1; omega) (fun x hx => by
  obtain ⟨j, hj⟩ := List.mem_iff_getElem?.1 hx
  rw [List.getElem?_take] at hj
  split at hj
  ·exact errP_chk hj (h1 j (by assumption))
  ·cases hj) hp hv : tapE T (P.take q) (V.take q) p v = errP T P V q))
 have HK := zA (fun W q A A3 a g s m z yN (hq : q < P.length) (h : zH W o1 T) (h' : zD W (some A) P) (h'' : zF W (some A3) V) =>
  (by
   have h := checkTapB_any T (P.take q) (V.take q) o1 (some A) (some A3) c1 c2 c3 a g s m z yN W h (h'.take q) (h''.take q) hlen (by rw [List.length_take]; omega) (by rw [List.length_take, List.length_take]; omega) hr
   rw [List.length_take, List.length_take, Nat.min_eq_left (by omega), Nat.min_eq_left (by omega)] at h
   exact h : Calls Tryz.prog 73 #[lg o1 (some A) (some A3) T.length c1 q c2 q c3, tp a g s m z, .int .i64 yN] W fun e w' => e = .returned (.int .i64 (tapE T (P.take q) (V.take q) ⟨a, g, s, m, z⟩ yN)) ∧ Below W.heap.size W w'))
 have HT := zA hT
 have HP := zA hP
 have HV := zA hV
 have HLV := zA hlv
 have hvl : V.length ≤ 60 := by omega
 clear hT hP hV hr hck hE hlv
 generalize tapsE T P V = R at *
 go_enter Tryz.func46, Tryz.ntmps46
 go_wp2_with fail
 go_loopw [10] (fun j wr => ∃ (q : Nat), q ≤ P.length ∧ j = .int .i64 q ∧ Hid (∀ j, j < q → errP T P V j = 0) ∧ Below (w.heap.size + 1) (w.alloc (cL o1 o2 o3 T.length c1 P.length c2 V.length c3 92)) wr) (fun j _ => P.length - (intOf j).toNat)
 case atStart => exact ⟨0, Nat.zero_le _, rfl, fun j hj => by omega, Below.refl _ _⟩
 case round =>
  obtain ⟨q, hq, rfl, hF, hbr⟩ := hrel
  have d0 : wr.cell? ⟨w.heap.size, 0, none⟩ = some (.slice o1 T.length c1) := by rw [hbr.cell (p := ⟨w.heap.size, 0, none⟩) (show w.heap.size < w.heap.size + 1 by omega)]; simp [go_sem]
  have d1 : wr.cell? ⟨w.heap.size, 1, none⟩ = some (.slice o2 P.length c2) := by rw [hbr.cell (p := ⟨w.heap.size, 1, none⟩) (show w.heap.size < w.heap.size + 1 by omega)]; simp [go_sem]
  have d2 : wr.cell? ⟨w.heap.size, 2, none⟩ = some (.slice o3 V.length c3) := by rw [hbr.cell (p := ⟨w.heap.size, 2, none⟩) (show w.heap.size < w.heap.size + 1 by omega)]; simp [go_sem]
  have hsz : w.heap.size < wr.heap.size := World.block_lt_of_cell? wr ⟨w.heap.size, 0, none⟩ d0
  have HB := zA (show Below w.heap.size w wr from ((Below.refl _ _).alloc (Nat.le_refl _) _).trans (hbr.mono (by omega)))
  by_cases hgo : q < P.length
  ·obtain ⟨p, hp⟩ : ∃ p, P[q]? = some p := ⟨P[q], by simp [hgo]⟩
   obtain ⟨v, hv⟩ : ∃ v, V[q]? = some v := ⟨V[q]'(by have := HLV.out; omega), by simp⟩
   have HX := zA (HQ.out q p v hF.out hp hv)
   obtain ⟨A, rfl, e0, e1, e2, e3, e4⟩ := (HP.out.below HB.out) q p hp
   obtain ⟨A3, rfl, f0⟩ := (HV.out.below HB.out) q v hv
   have hA : (A.add (q * 5)).block < wr.heap.size := World.block_lt_of_cell? wr (A.add (q * 5)) e0
   have hvl2 : q < V.length := by have := HLV.out; omega
   clear hp hv
   go_wp2_with fail
   have HB3 := zA (hbr.alloc (show w.heap.size + 1 ≤ wr.heap.size by omega) (cP p.a p.g p.s p.m p.z 66))
   have HB4 := zA (HB.out.alloc (show w.heap.size ≤ wr.heap.size by omega) (cP p.a p.g p.s p.m p.z 66))
   have hbw : Below wr.heap.size wr (wr.alloc (cP p.a p.g p.s p.m p.z 66)) := (Below.refl _ _).alloc (Nat.le_refl _) _
   have x0 : (wr.alloc (cP p.a p.g p.s p.m p.z 66)).cell? ⟨w.heap.size, 0, none⟩ = some (.slice o1 T.length c1) := by rw [hbw.cell (p := ⟨w.heap.size, 0, none⟩) hsz]; exact d0
   have x1 : (wr.alloc (cP p.a p.g p.s p.m p.z 66)).cell? ⟨w.heap.size, 1, none⟩ = some (.slice (some A) P.length c2) := by rw [hbw.cell (p := ⟨w.heap.size, 1, none⟩) hsz]; exact d1
   have x2 : (wr.alloc (cP p.a p.g p.s p.m p.z 66)).cell? ⟨w.heap.size, 2, none⟩ = some (.slice (some A3) V.length c3) := by rw [hbw.cell (p := ⟨w.heap.size, 2, none⟩) hsz]; exact d2
   have g0 : (wr.alloc (cP p.a p.g p.s p.m p.z 66)).cell? (A3.add q) = some (.int .i64 v) := by rw [hbw.cell (World.block_lt_of_cell? wr (A3.add q) f0)]; exact f0
   obtain ⟨y0, y1, y2, y3, y4⟩ : Tap5 (wr.alloc (cP p.a p.g p.s p.m p.z 66)) ⟨wr.heap.size, 0, none⟩ p := ⟨by simp [go_sem], by simp [go_sem], by simp [go_sem], by simp [go_sem], by simp [go_sem]⟩
   simp only [Nat.zero_add] at y0 y1 y2 y3 y4
   clear d0 d1 d2 e0 e1 e2 e3 e4 f0 hbw hbr
   generalize wr.alloc (cP p.a p.g p.s p.m p.z 66) = w2 at *
   have k0 := cell_regrown x0
   have k1 := cell_regrown x1
   have k2 := cell_regrown x2
   have l0 := cell_regrown y0
   have l1 := cell_regrown y1
   have l2 := cell_regrown y2
   have l3 := cell_regrown y3
   have l4 := cell_regrown y4
   have m0 := cell_regrown g0
   have cA : ∀ d os, Calls Tryz.prog 72 #[lg o1 (some A) (some A3) T.length c1 P.length c2 V.length c3, .int .i64 (q : Int)] (Sort.grow (redrawn w2 d) os) fun e w'' => e = .returned (lg o1 (some A) (some A3) T.length c1 q c2 q c3) ∧ ∃ p : Regrown, w'' = Sort.grow (redrawn w2 p.d) p.os :=
    fun d os => Calls.regrown_of (ahead_any o1 A A3 T.length c1 P.length c2 V.length c3 q _ (by omega) (by omega) (by omega))
   have cT : ∀ d os, Calls Tryz.prog 73 #[lg o1 (some A) (some A3) T.length c1 q c2 q c3, tp p.a p.g p.s p.m p.z, .int .i64 v] (Sort.grow (redrawn w2 d) os) fun e w'' => e = .returned (.int .i64 (tapE T (P.take q) (V.take q) p v)) ∧ ∃ p : Regrown, w'' = Sort.grow (redrawn w2 p.d) p.os :=
    fun d os => Calls.regrown_of (HK.out _ q A A3 p.a p.g p.s p.m p.z v hgo ((HT.out.below HB4.out).below (below_regrown w2 d os)) ((HP.out.below HB4.out).below (below_regrown w2 d os)) ((HV.out.below HB4.out).below (below_regrown w2 d os)))
   rw [HX.out] at cT
   clear HX x0 x1 x2 y0 y1 y2 y3 y4 g0
   have HA' := zA (HA.out q hF.out hgo)
   have HF' : Hid (errP T P V q = 0 → ∀ j, j < q + 1 → errP T P V j = 0) := fun h3 j hj => by
    rcases Nat.lt_or_ge j q with h | h
    ·exact hF.out j h
    ·obtain rfl : j = q := by omega
     exact h3
   generalize errP T P V q = X at *
   refine wp_region_quiet_below (by kernel_rfl) (by kernel_rfl) ?_
   repeat (quiet_step (first | exact cA _ _ | exact cT _ _))
   refine wpQuiet_nil ?_
   intro _ hw'
   obtain ⟨⟨dq, osq⟩, hw''⟩ := hw'
   subst hw''
   have HB5 := zA (HB3.out.trans ((below_regrown w2 dq osq).mono (by have := HB3.out.size; simp at this; omega)))
   have HB6 := zA (HB4.out.trans ((below_regrown w2 dq osq).mono HB4.out.size))
   clear k0 k1 k2 l0 l1 l2 l3 l4 m0 cA cT
   cases hX : (X != 0)
   ·go_wp2_with fail
    exact ⟨⟨q + 1, by omega, by simp, HF'.out (by simpa using hX), HB5.out⟩, by simp [intOf]; omega⟩
   ·have HR := zA (HA'.out (by simpa using hX))
    go_wp2_with fail
    go_ret
    exact ⟨by rw [HR.out]; rfl, HB6.out⟩
  ·obtain rfl : q = P.length := by omega
   have HR := zA (HO.out hF.out)
   go_wp2_with fail
   go_ret
   exact ⟨by rw [HR.out]; rfl, HB.out⟩
theorem chkL_split {T : List TK} {P : List TP} {V : List Int} (h : ¬ (12 < T.length ∨ 60 < P.length ∨ P.length ≠ V.length)) : (yL T ≠ 0 ∧ zQ T P V = yL T) ∨ (yL T = 0 ∧ zQ T P V = tapsE T P V) := by
 rw [zQ, if_neg h]
 by_cases h1 : yL T = 0
 ·right
  exact ⟨h1, firstE_zero _ _ h1⟩
 ·left
  exact ⟨h1, firstE_stop _ _ h1⟩
theorem checkLed_any (T : List TK) (P : List TP) (V : List Int) (o1 o2 o3 : Option Addr) (c1 c2 c3 : Nat) (w : World) (hT : zH w o1 T) (hP : zD w o2 P) (hV : zF w o3 V) (hlT : T.length ≤ 9223372036854775807) (hlP : P.length ≤ 9223372036854775807) (_hlV : V.length ≤ 9223372036854775807)
  (hc2 : P.length ≤ c2) (hc3 : V.length ≤ c3) :
  Calls Tryz.prog 14 #[lg o1 o2 o3 T.length c1 P.length c2 V.length c3] w fun e w' => e = .returned (.int .i64 (zQ T P V)) ∧ Below w.heap.size w w' := by
 by_cases hm : 12 < T.length ∨ 60 < P.length ∨ P.length ≠ V.length
 ·rw [chkL_many hm]
  have hcs : 12 < T.length ∨ (¬ 12 < T.length ∧ 60 < P.length) ∨ (¬ 12 < T.length ∧ ¬ 60 < P.length ∧ ((V.length : Int) != (P.length : Int)) = true) := by
   rcases hm with h | h | h
   ·exact Or.inl h
   ·by_cases h0 : 12 < T.length
    ·exact Or.inl h0
    ·exact Or.inr (Or.inl ⟨h0, h⟩)
   ·by_cases h0 : 12 < T.length
    ·exact Or.inl h0
    ·by_cases h1 : 60 < P.length
     ·exact Or.inr (Or.inl ⟨h0, h1⟩)
     ·refine Or.inr (Or.inr ⟨h0, h1, ?_⟩)
      simp
      omega
  clear hm hT hP hV hc2 hc3
  rcases hcs with h1 | ⟨h1, h2⟩ | ⟨h1, h2, h3⟩
  all_goals
   go_enter Tryz.func14, Tryz.ntmps14
   go_wp2_with fail
   go_ret
   exact ⟨rfl, (Below.refl _ _).alloc (Nat.le_refl _) _⟩
 ·have hsp := chkL_split hm
  have h1 : ¬ 12 < T.length := fun h => hm (Or.inl h)
  have h2 : ¬ 60 < P.length := fun h => hm (Or.inr (Or.inl h))
  have hlv : V.length = P.length := by omega
  have h3 : ((V.length : Int) != (P.length : Int)) = false := by simp [hlv]
  have HK := zA (fun W (h : zH W o1 T) => checkTickets_any T o1 o2 o3 c1 P.length c2 V.length c3 W h (by omega))
  have HS := zA (fun W hE (h : zH W o1 T) (h' : zD W o2 P) (h'' : zF W o3 V) => checkTaps_any T P V o1 o2 o3 c1 c2 c3 W h h' h'' (by omega) (by omega) hlv hc2 hc3 hE)
  have HT := zA hT
  have HP := zA hP
  have HV := zA hV
  clear hT hP hV hm hlv hc2 hc3
  generalize yL T = X at *
  generalize tapsE T P V = Y at *
  rcases hsp with ⟨hx, h5⟩ | ⟨rfl, h5⟩
  ·have hx' : (X != 0) = true := by simpa using hx
   rw [h5]
   clear h5 hx
   go_enter Tryz.func14, Tryz.ntmps14
   go_wp2_with fail
   refine (HK.out _ (HT.out.below ?_)).mono ?_
   ·repeat (first | with_reducible exact Below.refl _ _ | with_reducible refine Below.alloc ?_ (by simp; try omega) _ | with_reducible refine Below.setCell ?_ (by simp; try omega) _)
   rintro e w1 ⟨rfl, hb1⟩
   have HB1 : Hid (Below w.heap.size w w1) := by
    refine zA (Below.trans ?_ (hb1.mono ?_))
    ·repeat (first | with_reducible exact Below.refl _ _ | with_reducible refine Below.alloc ?_ (by simp; try omega) _ | with_reducible refine Below.setCell ?_ (by simp; try omega) _)
    ·simp; omega
   clear hb1
   go_wp2_with fail
   go_ret
   exact ⟨rfl, HB1.out⟩
  ·rw [h5]
   clear h5
   go_enter Tryz.func14, Tryz.ntmps14
   go_wp2_with fail
   refine (HK.out _ (HT.out.below ?_)).mono ?_
   ·repeat (first | with_reducible exact Below.refl _ _ | with_reducible refine Below.alloc ?_ (by simp; try omega) _ | with_reducible refine Below.setCell ?_ (by simp; try omega) _)
   rintro e w1 ⟨rfl, hb1⟩
   have HB1 : Hid (Below w.heap.size w w1) := by
    refine zA (Below.trans ?_ (hb1.mono ?_))
    ·repeat (first | with_reducible exact Below.refl _ _ | with_reducible refine Below.alloc ?_ (by simp; try omega) _ | with_reducible refine Below.setCell ?_ (by simp; try omega) _)
    ·simp; omega
   have hs1 := hb1.size
   simp at hs1
   obtain ⟨hc, hf⟩ := bcell hb1
   clear hb1
   go_wp2_with fail
   refine (HS.out _ trivial (HT.out.below HB1.out) (HP.out.below HB1.out) (HV.out.below HB1.out)).mono ?_
   rintro e w2 ⟨rfl, hb2⟩
   have HB2 := zA (HB1.out.trans (hb2.mono HB1.out.size))
   clear hb2 hc hf
   go_wp2_with fail
   go_ret
   exact ⟨rfl, HB2.out⟩
theorem zE {T : List TK} {P : List TP} {V : List Int} (h : zQ T P V = 0) : T.length ≤ 12 ∧ P.length ≤ 60 ∧ V.length = P.length ∧ yL T = 0 ∧ tapsE T P V = 0 := by
 by_cases hm : 12 < T.length ∨ 60 < P.length ∨ P.length ≠ V.length
 ·rw [chkL_many hm] at h; cases h
 ·rcases chkL_split hm with ⟨h1, h2⟩ | ⟨h1, h2⟩
  ·exact absurd (h2.symm.trans h) h1
  ·exact ⟨by omega, by omega, by omega, h1, h2.symm.trans h⟩
def zX (T : List TK) (P : List TP) (V : List Int) (id : Int) : Int × Int :=
 if zQ T P V ≠ 0 then (0, zQ T P V) else if yF T id = true then (((zG (P.zip V) id).length : Int), 0) else (0, 5)
theorem ridesLed_any (T : List TK) (P : List TP) (V : List Int) (id : Int) (o1 o2 o3 : Option Addr) (c1 c2 c3 : Nat) (w : World) (hT : zH w o1 T) (hP : zD w o2 P) (hV : zF w o3 V) (hlT : T.length ≤ 9223372036854775807) (hlP : P.length ≤ 9223372036854775807) (hlV : V.length ≤ 9223372036854775807)
  (hc2 : P.length ≤ c2) (hc3 : V.length ≤ c3) :
  Calls Tryz.prog 48 #[lg o1 o2 o3 T.length c1 P.length c2 V.length c3, .int .i64 id] w fun e w' => e = .returned (.tuple #[.int .i64 (zX T P V id).1, .int .i64 (zX T P V id).2]) ∧ Below w.heap.size w w' := by
 have HC := zA (fun W (h : zH W o1 T) (h' : zD W o2 P) (h'' : zF W o3 V) => checkLed_any T P V o1 o2 o3 c1 c2 c3 W h h' h'' hlT hlP hlV hc2 hc3)
 have HPl := zA (fun (h0 : zQ T P V = 0) W (h : zH W o1 T) => place_any T id o1 o2 o3 c1 P.length c2 V.length c3 W h (zE h0).1 (zW (zE h0).2.2.2.1))
 have HRi := zA (fun (h0 : zQ T P V = 0) W (h : zD W o2 P) (h' : zF W o3 V) => rides_any P V id o1 o2 o3 T.length c1 c2 c3 W h h' (zE h0).2.1 (zE h0).2.2.1)
 have HLr := zA (fun (h0 : zQ T P V = 0) => (by have := ridesL_len (P.zip V) id; rw [List.length_zip] at this; have := (zE h0).2.1; omega : (zG (P.zip V) id).length ≤ 60))
 have HT := zA hT
 have HP := zA hP
 have HV := zA hV
 clear hT hP hV hlT hlP hlV hc2 hc3
 generalize hR : zX T P V id = R
 unfold zX at hR
 generalize zQ T P V = X at *
 generalize zG (P.zip V) id = rl at *
 generalize yF T id = hs at *
 generalize posT T id = pos at *
 by_cases hX : X = 0
 ·subst hX
  have HPl' := zA (HPl.out rfl)
  have HRi' := zA (HRi.out rfl)
  have hlr := HLr.out rfl
  clear HPl HRi HLr
  rw [if_neg (by simp)] at hR
  cases hs
  ·rw [if_neg (by simp)] at hR
   subst hR
   go_enter Tryz.func48, Tryz.ntmps48
   go_wp2_with fail
   refine (HC.out _ (HT.out.below ?_) (HP.out.below ?_) (HV.out.below ?_)).mono ?_
   ·exact (Below.refl _ _).alloc (Nat.le_refl _) _
   ·exact (Below.refl _ _).alloc (Nat.le_refl _) _
   ·exact (Below.refl _ _).alloc (Nat.le_refl _) _
   rintro e w1 ⟨rfl, hb1⟩
   have HB1 := zA (((Below.refl w.heap.size w).alloc (Nat.le_refl _) (cL o1 o2 o3 T.length c1 P.length c2 V.length c3 26)).trans (hb1.mono (by simp)))
   obtain ⟨hc, hf⟩ := bcell hb1
   have hs1 := hb1.size
   simp at hs1
   clear hb1
   go_wp2_with fail
   refine (HPl'.out _ (HT.out.below ?_)).mono ?_
   ·exact HB1.out.alloc HB1.out.size _
   rintro e w2 ⟨rfl, hb2⟩
   have HB2 := zA ((HB1.out.alloc HB1.out.size (cL o1 o2 o3 T.length c1 P.length c2 V.length c3 92)).trans (hb2.mono (by simp; omega)))
   clear hb2 hc hf
   go_wp2_with fail
   go_ret2
   exact ⟨rfl, HB2.out⟩
  ·rw [if_pos rfl] at hR
   subst hR
   go_enter Tryz.func48, Tryz.ntmps48
   go_wp2_with fail
   refine (HC.out _ (HT.out.below ?_) (HP.out.below ?_) (HV.out.below ?_)).mono ?_
   ·exact (Below.refl _ _).alloc (Nat.le_refl _) _
   ·exact (Below.refl _ _).alloc (Nat.le_refl _) _
   ·exact (Below.refl _ _).alloc (Nat.le_refl _) _
   rintro e w1 ⟨rfl, hb1⟩
   have HB1 := zA (((Below.refl w.heap.size w).alloc (Nat.le_refl _) (cL o1 o2 o3 T.length c1 P.length c2 V.length c3 26)).trans (hb1.mono (by simp)))
   obtain ⟨hc, hf⟩ := bcell hb1
   have hs1 := hb1.size
   simp at hs1
   clear hb1
   go_wp2_with fail
   refine (HPl'.out _ (HT.out.below ?_)).mono ?_
   ·exact HB1.out.alloc HB1.out.size _
   rintro e w2 ⟨rfl, hb2⟩
   have HB2 := zA ((HB1.out.alloc HB1.out.size (cL o1 o2 o3 T.length c1 P.length c2 V.length c3 92)).trans (hb2.mono (by simp; omega)))
   clear hc hf
   obtain ⟨hc, hf⟩ := bcell hb2
   clear hb2
   go_wp2_with fail
   refine (HRi'.out _ (HP.out.below HB2.out) (HV.out.below HB2.out)).mono ?_
   rintro e w3 ⟨⟨o, cap, rfl, hRt⟩, hb3⟩
   have HB3 := zA (HB2.out.trans (hb3.mono HB2.out.size))
   clear hb3 hc hf hRt
   go_wp2_with fail
   go_ret2
   exact ⟨rfl, HB3.out⟩
 ·have hX' : (X != 0) = true := by simpa using hX
  rw [if_pos hX] at hR
  subst hR
  clear hX HPl HRi HLr
  go_enter Tryz.func48, Tryz.ntmps48
  go_wp2_with fail
  refine (HC.out _ (HT.out.below ?_) (HP.out.below ?_) (HV.out.below ?_)).mono ?_
  ·exact (Below.refl _ _).alloc (Nat.le_refl _) _
  ·exact (Below.refl _ _).alloc (Nat.le_refl _) _
  ·exact (Below.refl _ _).alloc (Nat.le_refl _) _
  rintro e w1 ⟨rfl, hb1⟩
  have HB1 := zA (((Below.refl w.heap.size w).alloc (Nat.le_refl _) (cL o1 o2 o3 T.length c1 P.length c2 V.length c3 26)).trans (hb1.mono (by simp)))
  clear hb1
  go_wp2_with fail
  go_ret2
  exact ⟨rfl, HB1.out⟩
def allR (k r : Int) : Int := if k = 1 then 1 else if k = 2 then 60 else r
theorem allRides_any (i k f t z r : Int) (w : World) :
  Calls Tryz.prog 82 #[tk i k f t z r] w fun e w' => e = .returned (.int .i64 (allR k r)) ∧ Below w.heap.size w w' := by
 generalize hA : allR k r = A
 unfold allR at hA
 have hk : ((k == 1) = true ∧ A = 1) ∨ ((k == 1) = false ∧ (k == 2) = true ∧ A = 60) ∨ ((k == 1) = false ∧ (k == 2) = false ∧ A = r) := by
  rw [← hA]
  by_cases k1 : k = 1
  ·subst k1; simp
  ·by_cases k2 : k = 2
   ·subst k2; simp
   ·simp [k1, k2]
 clear hA
 rcases hk with ⟨k1, rfl⟩ | ⟨k1, k2, rfl⟩ | ⟨k1, k2, rfl⟩
 all_goals
  go_enter Tryz.func82, Tryz.ntmps82
  go_wp2_with fail
  go_ret
  exact ⟨rfl, (Below.refl _ _).alloc (Nat.le_refl _) _⟩
theorem left1_any (i k f t z r id : Int) (B : Nat) (w : World) (hc : w.cell? ⟨B, 0, none⟩ = some (.int .i64 id)) :
  Calls Tryz.prog 81 #[tk i k f t z r, .pointer (some ⟨B, 0, none⟩)] w fun e w' => e = .returned (.bool (i == id)) ∧ Below w.heap.size w w' := by
 have hlt := World.block_lt_of_cell? w ⟨B, 0, none⟩ hc
 go_enter Tryz.func81, Tryz.ntmps81
 go_wp2_with fail
 go_ret
 exact ⟨rfl, (Below.refl _ _).alloc (Nat.le_refl _) _⟩
theorem indexL_any (B : Nat) (id : Int) (L : List TK) (o : Option Addr) (cap : Nat) (w : World) (hL : zH w o L) (hlen : L.length ≤ 9223372036854775807) (hc : w.cell? ⟨B, 0, none⟩ = some (.int .i64 id)) :
  Calls Tryz.prog 15 #[.slice o L.length cap, .func (.func 81) #[] #[.pointer (some ⟨B, 0, none⟩)]] w fun e w' => e = .returned (.int .i64 (idxT L id)) ∧ Below w.heap.size w w' := by
 have HL := zA hL
 have hlt := World.block_lt_of_cell? w ⟨B, 0, none⟩ hc
 have HF := zA (fun (x : TK) (W : World) h => left1_any x.i x.k x.f x.t x.z x.r id B W h)
 clear hL
 go_enter Tryz.func15, Tryz.ntmps15
 go_wp2_with fail
 go_loopw [8] (fun j wr => ∃ (q : Nat), q ≤ L.length ∧ j = .int .i64 q ∧ Hid (∀ j, j < q → ∀ p, L[j]? = some p → p.i ≠ id) ∧ Below w.heap.size w wr) (fun j _ => L.length - (intOf j).toNat)
 case atStart => exact ⟨0, Nat.zero_le _, rfl, fun j h => by omega, Below.refl _ _⟩
 case round =>
  obtain ⟨q, hq, rfl, hE, hbr⟩ := hrel
  have c' : wr.cell? ⟨B, 0, none⟩ = some (.int .i64 id) := by rw [hbr.cell (p := ⟨B, 0, none⟩) hlt]; exact hc
  by_cases hgo : q < L.length
  ·obtain ⟨x, hx⟩ : ∃ x, L[q]? = some x := ⟨L[q], by simp [hgo]⟩
   obtain ⟨A, rfl, c0, c1, c2, c3, c4, c5⟩ := (HL.out.below hbr) q x hx
   have HX := zA hx
   clear hx
   go_wp2_with fail
   refine (HF.out x _ c').mono ?_
   rintro e w1 ⟨rfl, hb⟩
   have hbr3 := hbr.trans (hb.mono hbr.size)
   clear hbr hb c'
   cases hg : (x.i == id)
   ·go_wp2_with fail
    refine ⟨⟨q + 1, by omega, by simp, ?_, hbr3⟩, by simp [intOf]; omega⟩
    intro j hj p hp
    rcases Nat.lt_or_ge j q with h | h
    ·exact hE.out j h p hp
    ·have : j = q := by omega
     subst this
     rw [HX.out] at hp
     cases hp
     simpa using hg
   ·have e1 := idxT_some HX.out (by simpa using hg) hE.out
    have H1 := zA e1
    clear e1
    go_wp2_with fail
    go_ret
    exact ⟨by rw [H1.out]; rfl, hbr3⟩
  ·have e1 := idxT_none (L := L) (id := id) (fun j p hp => hE.out j (by have := (List.getElem?_eq_some_iff.1 hp).1; omega) p hp)
   have H1 := zA e1
   clear e1
   go_wp2_with fail
   go_ret
   exact ⟨by rw [H1.out]; rfl, hbr⟩
theorem xA (A : Addr) (n r : Nat) (hr : 0 < r) : (⟨(A.add n).block, (A.add n).off + r, none⟩ : Addr) = A.add (n + r) := by
 by_cases h1 : n = 0
 ·subst h1
  simp [Addr.add, Nat.ne_of_gt hr]
 ·simp [Addr.add, h1, Nat.ne_of_gt hr]
  omega
def cellsK (L : List TK) : List Value := L.flatMap fun p => [.int .i64 p.i, .int .i64 p.k, .int .i64 p.f, .int .i64 p.t, .int .i64 p.z, .int .i64 p.r]
def cellsV (L : List Int) : List Value := L.map fun n => .int .i64 n
theorem cellsK_len (L : List TK) : (cellsK L).length = L.length * 6 := by
 induction L with
 | nil => rfl
 | cons p L ih =>
  rw [cellsK, List.flatMap_cons, List.length_append, List.length_cons, ← cellsK, ih]
  simp; omega
theorem cellsV_len (L : List Int) : (cellsV L).length = L.length * 1 := by simp [cellsV]
theorem cellsK_get (L : List TK) (i : Nat) (p : TK) (h : L[i]? = some p) (j : Nat) (hj : j < 6) : (cellsK L)[i * 6 + j]? = [Value.int .i64 p.i, .int .i64 p.k, .int .i64 p.f, .int .i64 p.t, .int .i64 p.z, .int .i64 p.r][j]? := by
 induction L generalizing i with
 | nil => simp at h
 | cons q L ih =>
  rw [cellsK, List.flatMap_cons, ← cellsK]
  match i, h with
  | 0, h =>
   simp at h
   subst h
   rw [List.getElem?_append_left (by simp; omega)]
   simp
  | i + 1, h =>
   rw [List.getElem?_append_right (by simp; omega)]
   simp only [List.length_cons, List.length_nil]
   rw [show (i + 1) * 6 + j - (0 + 1 + 1 + 1 + 1 + 1 + 1) = i * 6 + j by omega]
   exact ih i (by simpa using h)
def yR (w : World) (v : Value) (L : List TP) : Prop := ∃ o cap, v = .slice o L.length cap ∧ zD w o L ∧ L.length ≤ cap ∧ (o = none → cap = 0)
def TiksV (w : World) (v : Value) (L : List TK) : Prop := ∃ o cap, v = .slice o L.length cap ∧ zH w o L ∧ L.length ≤ cap ∧ (o = none → cap = 0)
def yQ (w : World) (v : Value) (L : List Int) : Prop := ∃ o cap, v = .slice o L.length cap ∧ zF w o L ∧ L.length ≤ cap ∧ (o = none → cap = 0)
theorem yR.below {w w' : World} {v : Value} {L : List TP} (h : yR w v L) (hb : Below w.heap.size w w') : yR w' v L := have ⟨o, c, e, h1, h2⟩ := h; ⟨o, c, e, h1.below hb, h2⟩
theorem TiksV.below {w w' : World} {v : Value} {L : List TK} (h : TiksV w v L) (hb : Below w.heap.size w w') : TiksV w' v L := have ⟨o, c, e, h1, h2⟩ := h; ⟨o, c, e, h1.below hb, h2⟩
theorem yQ.below {w w' : World} {v : Value} {L : List Int} (h : yQ w v L) (hb : Below w.heap.size w w') : yQ w' v L := have ⟨o, c, e, h1, h2⟩ := h; ⟨o, c, e, h1.below hb, h2⟩
theorem tapsV_own {w : World} {base n : Nat} {v : Value} {L : List TP} (h : w.ownsRow base 66 5 v n (cellsP L)) : yR w v L := by
 obtain ⟨hn, o, cap, rfl, hT⟩ := taps_own h
 subst hn
 rcases h.2 with ⟨e, h0⟩ | ⟨g, c, cur, e, -, -, hc, -⟩
 ·simp only [Value.slice.injEq] at e
  obtain ⟨rfl, -, rfl⟩ := e
  exact ⟨none, 0, rfl, hT, by omega, fun _ => rfl⟩
 ·simp only [Value.slice.injEq] at e
  obtain ⟨rfl, -, rfl⟩ := e
  exact ⟨_, _, rfl, hT, hc, fun h => by cases h⟩
theorem tiksV_own {w : World} {base n : Nat} {v : Value} {L : List TK} (h : w.ownsRow base 51 6 v n (cellsK L)) : TiksV w v L := by
 have hn : n = L.length := by have := h.1; rw [cellsK_len] at this; omega
 subst hn
 have hc := fun g => h.cells (g := g)
 rcases h.2 with ⟨rfl, h0⟩ | ⟨g, cap, cur, rfl, -, -, hcap, -⟩
 ·have : L = [] := List.eq_nil_of_length_eq_zero h0
  subst this
  exact ⟨none, 0, rfl, fun i p hi => by simp at hi, by simp, fun _ => rfl⟩
 ·refine ⟨_, cap, rfl, fun i p hi => ⟨_, rfl, ?_⟩, hcap, fun h => by cases h⟩
  have e := fun j hj => cellsK_get L i p hi j hj
  have c := fun j u hu => hc g rfl (i * 6 + j) u hu
  refine ⟨?_, ?_, ?_, ?_, ?_, ?_⟩
  ·have := c 0 _ (e 0 (by omega))
   simpa using this
  ·rw [xA _ _ _ (by decide)]; exact c 1 _ (e 1 (by omega))
  ·rw [xA _ _ _ (by decide)]; exact c 2 _ (e 2 (by omega))
  ·rw [xA _ _ _ (by decide)]; exact c 3 _ (e 3 (by omega))
  ·rw [xA _ _ _ (by decide)]; exact c 4 _ (e 4 (by omega))
  ·rw [xA _ _ _ (by decide)]; exact c 5 _ (e 5 (by omega))
theorem intsV_own {w : World} {base n : Nat} {v : Value} {L : List Int} (h : w.ownsRow base 3 1 v n (cellsV L)) : yQ w v L := by
 have hn : n = L.length := by have := h.1; rw [cellsV_len] at this; omega
 subst hn
 have hc := fun g => h.cells (g := g)
 rcases h.2 with ⟨rfl, h0⟩ | ⟨g, cap, cur, rfl, -, -, hcap, -⟩
 ·have : L = [] := List.eq_nil_of_length_eq_zero h0
  subst this
  exact ⟨none, 0, rfl, fun i p hi => by simp at hi, by simp, fun _ => rfl⟩
 ·exact ⟨_, cap, rfl, fun i p hi => ⟨_, rfl, hc g rfl i _ (by simp [cellsV, hi])⟩, hcap, fun h => by cases h⟩
def yD (B : Nat) (v : Value) : Prop := ∀ k, v.ownBlock = some k → B ≤ k
end
section
section
variable {P : Program} {ops : Array Oper} {Q : Exit → Act → World → Prop} {S : World → Prop}
def takesI (ops : Array Oper) : List Nat → Array Bool → Bool
 | [], _ => true
 | i :: l, listed => Region.free .any ops listed i && (Region.ready .any ops listed).contains i && takesI ops l (listed.setIfInBounds i true)
def listedI : List Nat → Array Bool → Array Bool
 | [], l => l
 | i :: l, listed => listedI l (listed.setIfInBounds i true)
def wpPureH (P : Program) (ops : Array Oper) (S : World → Prop) (K : Act → Prop) : List Nat → Act → Prop
 | [], a => K a
 | i :: rest, a => ∃ o v, ops[i]? = some o ∧ YieldsIf P ops S o v a ∧ wpPureH P ops S K rest (a.put o.dst v)
theorem wpPureH_nil {K : Act → Prop} {a : Act} (h : K a) : wpPureH P ops S K [] a := h
theorem zC {K : Act → Prop} {i : Nat} {o : Oper} {rest : List Nat} {a : Act} (v : Value) (ho : ops[i]? = some o) (hg : o.guard = none)
  (h : ∀ w, S w → (execOp a.eval o).run P w = .ok (.value v) w) (h2 : wpPureH P ops S K rest (a.put o.dst v)) : wpPureH P ops S K (i :: rest) a :=
 ⟨o, v, ho, .inl ⟨by simp [Region.wanted, hg], h⟩, h2⟩
theorem pS {K : Act → Prop} {i : Nat} {o : Oper} {rest : List Nat} {a : Act} (v : Value) (ho : ops[i]? = some o) (hg : o.guard = none)
    (h2 : wpPureH P ops S K rest (a.put o.dst v)) (h : ∀ w, S w → (execOp a.eval o).run P w = .ok (.value v) w := by intro w' _; go_simp) : wpPureH P ops S K (i :: rest) a := zC v ho hg h h2
theorem takesH (hs : Region.noSelect ops = true) (hQ : ∀ c d v a w, Q (.panic c) (Act.put a d v) w → Q (.panic c) a w) {fuel : Nat} {w : World} (hS : S w) :
  ∀ (l : List Nat) (listed : Array Bool) (a : Act), takesI ops l listed = true →
   wpPureH P ops S (fun a' => wpAnyH P .any ops Q S fuel (listedI l listed) a' w) l a → wpAnyH P .any ops Q S (fuel + l.length) listed a w
 | [], listed, a, _, h => h
 | i :: l, listed, a, hk, h => by
  obtain ⟨o, v, h0, hy, hrest⟩ := h
  simp only [takesI, Bool.and_eq_true] at hk
  exact wpAnyH_take (i := i) (oi := o) (v := v) (fuel := fuel + l.length) h0 hs hk.1.1 hk.1.2 (fun c a w => hQ c o.dst v a w) hy hS (takesH hs hQ hS l (listed.setIfInBounds i true) (a.put o.dst v) hk.2 hrest)
theorem wp_region_reads {id : Nat} {a : Act} {w : World} {l : List Oper} (S : World → Prop) (idx : List Nat) (m : Nat) (hn : l.length = m + idx.length) (hm : P.follows .mixedOrders = true) (hs : Region.noSelect l.toArray = true)
  (hk : takesI l.toArray idx (Array.replicate (m + idx.length) false) = true) (hQ : ∀ c d v a w, Q (.panic c) (Act.put a d v) w → Q (.panic c) a w) (hS : S w.drew)
  (h : wpPureH P l.toArray S (fun a' => wpAnyH P .any l.toArray Q S m (listedI idx (Array.replicate (m + idx.length) false)) a' w.drew) idx a) : (Code.region id l.toArray true).wp P Q a w := by
 refine wp_region_held hm (S := S) ?_
 have := takesH (P := P) (ops := l.toArray) (Q := Q) (fuel := m) (w := w.drew) hs hQ hS idx (Array.replicate (m + idx.length) false) a hk h
 simpa [hn] using this
theorem one_readyH {i : Nat} {o : Oper} {fuel : Nat} {listed : Array Bool} {a : Act} {w : World} (hr : Region.ready .any ops listed = [i]) (ho : ops[i]? = some o) (hg : o.guard = none)
  (h : ∀ K' : Act → World → Prop, (∀ a w, S w → wpAnyH P .any ops Q S fuel (listed.setIfInBounds i true) a w → K' a w) → o.wp P a w K' Q) : wpAnyH P .any ops Q S (fuel + 1) listed a w := by
 refine wpAnyH_all hr (by simp) (fun j hj => ?_)
 obtain rfl : j = i := by simpa using hj
 unfold wpOp
 simp only [ho]
 rw [if_pos (by simp [Region.wanted, hg])]
 exact .inl (h _ (fun _ _ h1 h2 => ⟨h1, h2⟩))
theorem oR (i : Nat) {o : Oper} {fuel : Nat} {listed : Array Bool} {a : Act} {w : World} (ho : ops[i]? = some o) (hg : o.guard = none)
    (h : ∀ K' : Act → World → Prop, (∀ a w, S w → wpAnyH P .any ops Q S fuel (listed.setIfInBounds i true) a w → K' a w) → o.wp P a w K' Q) (hr : Region.ready .any ops listed = [i] := by kernel_rfl) : wpAnyH P .any ops Q S (fuel + 1) listed a w := one_readyH hr ho hg h
theorem two_readyH {i j : Nat} {o p : Oper} {fuel : Nat} {listed : Array Bool} {a : Act} {w : World} (hr : Region.ready .any ops listed = [i, j]) (ho : ops[i]? = some o) (hg : o.guard = none) (hp : ops[j]? = some p) (hg' : p.guard = none)
  (h : ∀ K' : Act → World → Prop, (∀ a w, S w → wpAnyH P .any ops Q S fuel (listed.setIfInBounds i true) a w → K' a w) → o.wp P a w K' Q)
  (h' : ∀ K' : Act → World → Prop, (∀ a w, S w → wpAnyH P .any ops Q S fuel (listed.setIfInBounds j true) a w → K' a w) → p.wp P a w K' Q) : wpAnyH P .any ops Q S (fuel + 1) listed a w := by
 refine wpAnyH_all hr (by simp) (fun q hq => ?_)
 have hq' : q = i ∨ q = j := by simpa using hq
 rcases hq' with rfl | rfl
 ·unfold wpOp
  simp only [ho]
  rw [if_pos (by simp [Region.wanted, hg])]
  exact .inl (h _ (fun _ _ h1 h2 => ⟨h1, h2⟩))
 ·unfold wpOp
  simp only [hp]
  rw [if_pos (by simp [Region.wanted, hg'])]
  exact .inl (h' _ (fun _ _ h1 h2 => ⟨h1, h2⟩))
end
end
section
open Go.RowKit
def LedV (w : World) (v : Value) (T : List TK) (P : List TP) (V : List Int) : Prop := ∃ v1 v2 v3, v = .agg #[v1, v2, v3] ∧ TiksV w v1 T ∧ yR w v2 P ∧ yQ w v3 V
theorem LedV.below {w w' : World} {v : Value} {T : List TK} {P : List TP} {V : List Int} (h : LedV w v T P V) (hb : Below w.heap.size w w') : LedV w' v T P V :=
 have ⟨v1, v2, v3, e, h1, h2, h3⟩ := h; ⟨v1, v2, v3, e, h1.below hb, h2.below hb, h3.below hb⟩
theorem tapsV_nil (w : World) : yR w (.slice none 0 0) [] := ⟨none, 0, rfl, fun i p h => by simp at h, by simp, fun _ => rfl⟩
theorem intsV_nil (w : World) : yQ w (.slice none 0 0) [] := ⟨none, 0, rfl, fun i p h => by simp at h, by simp, fun _ => rfl⟩
theorem heap_alloc_new' (w : World) (o : Obj) (n : Nat) (h : n = w.heap.size) : (w.alloc o).heap[n]? = some o := by
 subst h
 exact heap_alloc_new w o
theorem at_set {w : World} {A : Addr} {p : Addr} {u : Value} {n : Nat} {v : Value} (hne : p.block < A.block) (h : w.cell? (A.add n) = some v) : (w.setCell p u).cell? (A.add n) = some v := by
 rw [World.cell?_setCell_other]
 ·exact h
 ·intro e
  have : (A.add n).block = A.block := add_block A n
  rw [← e] at this
  omega
theorem zR {w : World} {A : Addr} {p : Addr} {u : Value} {n j : Nat} {v : Value} (hne : p.block < A.block) (h : w.cell? ⟨(A.add n).block, (A.add n).off + j, none⟩ = some v) : (w.setCell p u).cell? ⟨(A.add n).block, (A.add n).off + j, none⟩ = some v := by
 rw [World.cell?_setCell_other]
 ·exact h
 ·intro e
  have : (A.add n).block = A.block := add_block A n
  rw [e] at hne
  simp only [] at hne
  omega
theorem TiksV.set {w : World} {B : Nat} {v : Value} {L : List TK} (h : TiksV w v L) (hf : yD B v) {p : Addr} (hp : p.block < B) (u : Value) : TiksV (w.setCell p u) v L := by
 obtain ⟨o, c, rfl, h1, h2⟩ := h
 refine ⟨o, c, rfl, fun i x hi => ?_, h2⟩
 obtain ⟨b, rfl, a0, a1, a2, a3, a4, a5⟩ := h1 i x hi
 have hB : B ≤ b.block := hf _ rfl
 have hn : p.block < b.block := by omega
 exact ⟨b, rfl, at_set hn a0, zR hn a1, zR hn a2, zR hn a3, zR hn a4, zR hn a5⟩
theorem yR.set {w : World} {B : Nat} {v : Value} {L : List TP} (h : yR w v L) (hf : yD B v) {p : Addr} (hp : p.block < B) (u : Value) : yR (w.setCell p u) v L := by
 obtain ⟨o, c, rfl, h1, h2⟩ := h
 refine ⟨o, c, rfl, fun i x hi => ?_, h2⟩
 obtain ⟨b, rfl, a0, a1, a2, a3, a4⟩ := h1 i x hi
 have hB : B ≤ b.block := hf _ rfl
 have hn : p.block < b.block := by omega
 exact ⟨b, rfl, at_set hn a0, zR hn a1, zR hn a2, zR hn a3, zR hn a4⟩
theorem yQ.set {w : World} {B : Nat} {v : Value} {L : List Int} (h : yQ w v L) (hf : yD B v) {p : Addr} (hp : p.block < B) (u : Value) : yQ (w.setCell p u) v L := by
 obtain ⟨o, c, rfl, h1, h2⟩ := h
 refine ⟨o, c, rfl, fun i x hi => ?_, h2⟩
 obtain ⟨b, rfl, a0⟩ := h1 i x hi
 have hB : B ≤ b.block := hf _ rfl
 have hn : p.block < b.block := by omega
 exact ⟨b, rfl, at_set hn a0⟩
theorem yD.mono {B C : Nat} {v : Value} (h : yD B v) (hc : C ≤ B) : yD C v := fun k hk => Nat.le_trans hc (h k hk)
theorem zH.take {w : World} {o : Option Addr} {L : List TK} (h : zH w o L) (n : Nat) : zH w o (L.take n) := fun i p hi => by
 rw [List.getElem?_take] at hi
 split at hi
 ·exact h i p hi
 ·cases hi
theorem add_add' (A : Addr) (n m : Nat) : (A.add n).add m = A.add (n + m) := by
 by_cases h1 : n = 0
 ·subst h1; simp [Addr.add]
 ·by_cases h2 : m = 0
  ·subst h2; simp [Addr.add]
  ·simp [Addr.add, h1, h2]
   omega
theorem zH.drop {w : World} {A : Addr} {L : List TK} (h : zH w (some A) L) (n c : Nat) (hc : L.length ≤ c) : zH w (if c = n then some A else some (A.add (n * 6))) (L.drop n) := fun i p hi => by
 rw [List.getElem?_drop] at hi
 have hlt := (List.getElem?_eq_some_iff.1 hi).1
 rw [if_neg (by omega)]
 obtain ⟨b, hb, h6⟩ := h (n + i) p hi
 cases hb
 refine ⟨_, rfl, ?_⟩
 rw [add_add', ← Nat.add_mul]
 exact h6
end
section
open Go.RowKit
section
variable {P : Program} {ops : Array Oper} {Q : Exit → Act → World → Prop} {S : World → Prop} {φ : Nat → Value → World → Prop}
def dstK (ops : Array Oper) (k : Nat) : Nat := ((ops[k]?).bind (·.dst)).getD 0
def plainM (ops : Array Oper) (n : Nat) (tail : Array Bool) : Bool :=
 decide (n ≤ ops.size) &&
 (List.range n).all (fun k => match ops[k]? with
  | some o => o.guard.isNone && o.dst.isSome && o.after.all (fun e => !Region.binds .any e || decide (e.on < k))
  | none => false) &&
 (List.range n).all (fun k => (List.range n).all fun j => j == k || dstK ops j != dstK ops k) &&
 (List.range ops.size).all (fun j => decide (j < n) || tail.getD (j - n) false || match ops[j]? with
  | some o => (List.range n).all fun k => o.after.any fun e => Region.binds .any e && e.on == k
  | none => true)
def puts (ops : Array Oper) (n : Nat) (listed : Array Bool) (zT : Nat → Value) (a0 : Act) : Act :=
 (List.range n).foldl (fun a k => if listed.getD k false = true then a.put (some (dstK ops k)) (zT k) else a) a0
theorem puts_succ (n : Nat) (listed : Array Bool) (zT : Nat → Value) (a0 : Act) :
  puts ops (n + 1) listed zT a0 = if listed.getD n false = true then (puts ops n listed zT a0).put (some (dstK ops n)) (zT n) else puts ops n listed zT a0 := by
 simp [puts, List.range_succ, List.foldl_append]
theorem puts_size (n : Nat) (listed : Array Bool) (zT : Nat → Value) (a0 : Act) : (puts ops n listed zT a0).tmps.size = a0.tmps.size := by
 induction n with
 | zero => rfl
 | succ n ih =>
  rw [puts_succ]
  split
  ·simp [Act.put, ih]
  ·exact ih
theorem puts_other (n : Nat) (listed : Array Bool) (zT : Nat → Value) (a0 : Act) (d : Nat) (h : ∀ j, j < n → dstK ops j ≠ d) : (puts ops n listed zT a0).eval (.tmp d) = a0.eval (.tmp d) := by
 induction n with
 | zero => rfl
 | succ n ih =>
  rw [puts_succ]
  split
  ·rw [Act.eval_put_ne _ _ _ _ (h n (by omega))]
   exact ih fun j hj => h j (by omega)
  ·exact ih fun j hj => h j (by omega)
theorem puts_at (n : Nat) (listed : Array Bool) (zT : Nat → Value) (a0 : Act) (hd : ∀ j k, j < n → k < n → j ≠ k → dstK ops j ≠ dstK ops k) (hs : ∀ j, j < n → dstK ops j < a0.tmps.size)
  (j : Nat) (hj : j < n) (hl : listed.getD j false = true) : (puts ops n listed zT a0).eval (.tmp (dstK ops j)) = zT j := by
 induction n with
 | zero => omega
 | succ n ih =>
  rw [puts_succ]
  rcases Nat.lt_or_ge j n with h | h
  ·have := ih (fun j k hj hk => hd j k (by omega) (by omega)) (fun j hj => hs j (by omega)) h
   split
   ·rw [Act.eval_put_ne _ _ _ _ (hd n j (by omega) (by omega) (by omega))]
    exact this
   ·exact this
  ·obtain rfl : j = n := by omega
   rw [if_pos hl, Act.eval_put_same _ _ _ (by rw [puts_size]; exact hs j hj)]
theorem getD_set' (listed : Array Bool) (i k : Nat) (hi : i < listed.size) : (listed.setIfInBounds i true).getD k false = if k = i then true else listed.getD k false := by
 by_cases h : k = i
 ·subst h
  simp [Array.getD, hi]
 ·rw [if_neg h]
  simp only [Array.getD_eq_getD_getElem?]
  rw [Array.getElem?_setIfInBounds_ne (by omega)]
theorem puts_set (n : Nat) (listed : Array Bool) (zT : Nat → Value) (a0 : Act) (i : Nat) (v : Value) (hi : i < listed.size) (hl : listed.getD i false = false) (hd : ∀ j k, j < n → k < n → j ≠ k → dstK ops j ≠ dstK ops k) :
  puts ops n (listed.setIfInBounds i true) (fun k => if k = i then v else zT k) a0 = if i < n then (puts ops n listed zT a0).put (some (dstK ops i)) v else puts ops n listed zT a0 := by
 induction n with
 | zero => simp [puts]
 | succ n ih =>
  have ih := ih (fun j k hj hk => hd j k (by omega) (by omega))
  rw [puts_succ, puts_succ, ih, getD_set' _ _ _ hi]
  rcases Nat.lt_trichotomy i n with h | rfl | h
  ·rw [if_pos (show i < n + 1 by omega), if_pos h, if_neg (show ¬ n = i by omega), if_neg (show ¬ n = i by omega)]
   split
   ·rw [Act.put_comm _ _ _ (fun d e e' => hd i n (by omega) (by omega) (by omega) ((Option.some.inj e).trans (Option.some.inj e').symm))]
   ·rfl
  ·rw [if_pos (show i < i + 1 by omega), if_neg (Nat.lt_irrefl i), if_pos rfl, if_pos rfl, if_pos rfl, hl]
   simp
  ·rw [if_neg (show ¬ i < n + 1 by omega), if_neg (show ¬ i < n by omega), if_neg (show ¬ n = i by omega), if_neg (show ¬ n = i by omega)]
def left (n : Nat) (listed : Array Bool) : Nat := ((List.range n).filter fun k => listed.getD k false == false).length
theorem left_succ (n : Nat) (listed : Array Bool) : left (n + 1) listed = left n listed + if listed.getD n false = true then 0 else 1 := by
 unfold left
 rw [List.range_succ, List.filter_append, List.length_append]
 congr 1
 rw [List.filter_cons, List.filter_nil]
 cases listed.getD n false <;> rfl
theorem left_set (n : Nat) (listed : Array Bool) (i : Nat) (hi : i < listed.size) (hin : i < n) (hl : listed.getD i false = false) : left n listed = left n (listed.setIfInBounds i true) + 1 := by
 induction n with
 | zero => omega
 | succ n ih =>
  rw [left_succ, left_succ, getD_set' _ _ _ hi]
  rcases Nat.lt_or_ge i n with h | h
  ·rw [ih h, if_neg (show ¬ n = i by omega)]
   omega
  ·obtain rfl : i = n := by omega
   rw [if_pos rfl, hl]
   have : ∀ m, m ≤ i → left m (listed.setIfInBounds i true) = left m listed := by
    intro m hm
    induction m with
    | zero => rfl
    | succ m ihm =>
     rw [left_succ, left_succ, ihm (by omega), getD_set' _ _ _ hi, if_neg (show ¬ m = i by omega)]
   rw [this i (Nat.le_refl _)]
   simp
theorem left_zero (n : Nat) (listed : Array Bool) (h : left n listed = 0) : ∀ k, k < n → listed.getD k false = true := by
 induction n with
 | zero => intro k hk; omega
 | succ n ih =>
  rw [left_succ] at h
  intro k hk
  rcases Nat.lt_or_ge k n with h' | h'
  ·exact ih (by omega) k h'
  ·obtain rfl : k = n := by omega
   cases hc : listed.getD k false
   ·rw [hc] at h; simp at h
   ·rfl
theorem left_pos (n : Nat) (listed : Array Bool) (h : 0 < left n listed) : ∃ k, k < n ∧ listed.getD k false = false ∧ ∀ j, j < k → listed.getD j false = true := by
 induction n with
 | zero => simp [left] at h
 | succ n ih =>
  rcases Nat.eq_zero_or_pos (left n listed) with h0 | h0
  ·rw [left_succ, h0] at h
   refine ⟨n, by omega, ?_, left_zero n listed h0⟩
   cases hc : listed.getD n false
   ·rfl
   ·rw [hc] at h; simp at h
  ·obtain ⟨k, h1, h2⟩ := ih h0
   exact ⟨k, by omega, h2⟩
theorem makers {n m : Nat} {tail : Array Bool} {a0 : Act} (hp : plainM ops n tail = true) (hsz : ops.size = n + tail.size) (hs : ∀ j, j < n → dstK ops j < a0.tmps.size)
  (hφ : ∀ k v w w', φ k v w → Below w.heap.size w w' → φ k v w')
  (hstep : ∀ k o, k < n → ops[k]? = some o → ∀ a w, S w → (∀ e ∈ o.after, Region.binds .any e = true → φ e.on (a.eval (.tmp (dstK ops e.on))) w) → (∀ d, (∀ j, j < n → dstK ops j ≠ d) → a.eval (.tmp d) = a0.eval (.tmp d)) →
   ∀ K' : Act → World → Prop, (∀ v w', φ k v w' → S w' → Below w.heap.size w w' → K' (a.put o.dst v) w') → o.wp P a w K' Q)
  (hend : ∀ zT w, S w → (∀ k, k < n → φ k (zT k) w) → wpAny P .any ops Q m (Array.replicate n true ++ tail) (puts ops n (Array.replicate n true ++ tail) zT a0) w) :
  ∀ (c : Nat) (listed : Array Bool) (zT : Nat → Value) (w : World), left n listed = c → listed.size = n + tail.size → (∀ k, n ≤ k → k < n + tail.size → listed.getD k true = tail.getD (k - n) true) → S w → (∀ k, k < n → listed.getD k false = true → φ k (zT k) w) →
   wpAny P .any ops Q (m + c) listed (puts ops n listed zT a0) w := by
 simp only [plainM, Bool.and_eq_true, List.all_eq_true, List.mem_range, decide_eq_true_eq] at hp
 obtain ⟨⟨⟨_, hp1⟩, hp2⟩, hp3⟩ := hp
 have hd : ∀ j k, j < n → k < n → j ≠ k → dstK ops j ≠ dstK ops k := by
  intro j k hj hk hne
  have := hp2 k hk j hj
  simp only [Bool.or_eq_true, beq_iff_eq, bne_iff_ne] at this
  rcases this with h | h
  ·exact absurd h hne
  ·exact h
 intro c
 induction c with
 | zero =>
  intro listed zT w hc hls hhi hS hv
  have hall := left_zero n listed hc
  have he : listed = Array.replicate n true ++ tail := by
   apply Array.ext
   ·simp [hls]
   ·intro k h1 h2
    rcases Nat.lt_or_ge k n with h | h
    ·have := hall k h
     simp [Array.getD, h1] at this
     simp [h, this]
    ·have hkt : k - n < tail.size := by omega
     have := hhi k h (by omega)
     simp [Array.getD, h1, hkt] at this
     simp [Array.getElem_append, show ¬ k < n by omega, this]
  rw [he]
  exact hend zT w hS (fun k hk => hv k hk (hall k hk))
 | succ c ih =>
  intro listed zT w hc hls hhi hS hv
  refine ⟨fun hr => ?_, fun i hi => ?_⟩
  ·obtain ⟨k, hk, hkl, hkb⟩ := left_pos n listed (by omega)
   exfalso
   have : k ∈ Region.ready .any ops listed := by
    rw [mem_ready]
    have hk1 := hp1 k hk
    cases ho : ops[k]? with
    | none => rw [ho] at hk1; cases hk1
    | some o =>
     rw [ho] at hk1
     simp only [Bool.and_eq_true, Array.all_eq_true'] at hk1
     refine ⟨?_, o, rfl, fun e he hb => ?_⟩
     ·have : k < listed.size := by omega
      simp [Array.getD, this] at hkl ⊢
      exact hkl
     ·have := hk1.2 e he
      rw [hb] at this
      simp at this
      exact hkb e.on this
   rw [hr] at this
   cases this
  ·obtain ⟨hil, o, ho, hall⟩ := mem_ready.1 hi
   have his : i < listed.size := by
    rcases Nat.lt_or_ge i listed.size with h | h
    ·exact h
    ·simp [Array.getD, show ¬ i < listed.size by omega] at hil
   have hil' : listed.getD i false = false := by simp [Array.getD, his] at hil ⊢; exact hil
   have hin : i < n := by
    rcases Nat.lt_or_ge i n with h | h
    ·exact h
    ·exfalso
     obtain ⟨k, hk, hkl, _⟩ := left_pos n listed (by omega)
     have h3 := hp3 i (by omega)
     rw [ho] at h3
     simp only [Bool.or_eq_true, decide_eq_true_eq, List.all_eq_true, List.mem_range] at h3
     rcases h3 with (h3 | h3) | h3
     ·omega
     ·have h5 := hhi i h (by omega)
      have hkt : i - n < tail.size := by omega
      rw [hil] at h5
      simp [Array.getD, hkt] at h3 h5
      rw [h3] at h5
      cases h5
     ·have h4 := h3 k hk
      rw [Array.any_eq_true'] at h4
      obtain ⟨e, he, hb⟩ := h4
      simp only [Bool.and_eq_true, beq_iff_eq] at hb
      have := hall e he hb.1
      rw [hb.2, hkl] at this
      cases this
   have hk1 := hp1 i hin
   rw [ho] at hk1
   simp only [Bool.and_eq_true, Array.all_eq_true'] at hk1
   have hg : o.guard = none := by simpa using hk1.1.1
   have hdst : o.dst = some (dstK ops i) := by
    have h2 := hk1.1.2
    cases hdd : o.dst with
    | none => rw [hdd] at h2; cases h2
    | some d => simp [dstK, ho, hdd]
   unfold wpOp
   simp only [ho]
   rw [if_pos (by simp [Region.wanted, hg])]
   refine .inl (hstep i o hin ho _ w hS (fun e he hb => ?_) (fun d hdn => puts_other n listed zT a0 d hdn) _ (fun v w' hv' hS' hb' => ?_))
   ·have h1 := hall e he hb
    have h2 : e.on < i := by
     have := hk1.2 e he
     rw [hb] at this
     simpa using this
    rw [puts_at n listed zT a0 hd hs e.on (by omega) h1]
    exact hv e.on (by omega) h1
   ·rw [hdst]
    have e := puts_set (ops := ops) n listed zT a0 i v his hil' hd
    rw [if_pos hin] at e
    rw [← e]
    have hcs := left_set n listed i his hin hil'
    refine ih _ _ w' (by omega) (by simp [hls]) (fun k hk hkm => ?_) hS' (fun k hk hkl => ?_)
    ·rw [getD_set_ne true (show i ≠ k by omega)]
     exact hhi k hk hkm
    ·rw [getD_set' _ _ _ his] at hkl
     by_cases hki : k = i
     ·subst hki
      simp only [if_true]
      exact hv'
     ·simp only [if_neg hki] at hkl ⊢
      exact hφ k _ w w' (hv k hk hkl) hb'
end
end
section
open Go.RowKit
theorem single_any (id : Int) (w : World) :
  Calls Tryz.prog 39 #[.int .i64 id] w fun e w' => e = .returned (tk id 1 10 500 15 0) ∧ Below w.heap.size w w' := by
 go_enter Tryz.func39, Tryz.ntmps39
 go_wp2_with fail
 refine bodyPost_ret (v := tk id 1 10 500 15 0) (by simp [results, Tryz.results39, go_sem]) rfl ⟨rfl, ?_⟩
 repeat (first | with_reducible exact Below.refl _ _ | with_reducible refine Below.alloc ?_ (by simp) _ | with_reducible refine Below.setCell ?_ (by simp) _)
theorem at_any (id g s m : Int) (w : World) :
  Calls Tryz.prog 60 #[.int .i64 id, .int .i64 g, .int .i64 s, .int .i64 m] w fun e w' => e = .returned (tp id g s m 1) ∧ Below w.heap.size w w' := by
 go_enter Tryz.func60, Tryz.ntmps60
 go_wp2_with fail
 refine bodyPost_ret (v := tp id g s m 1) (by simp [results, Tryz.results60, go_sem]) rfl ⟨rfl, ?_⟩
 repeat (first | with_reducible exact Below.refl _ _ | with_reducible refine Below.alloc ?_ (by simp) _ | with_reducible refine Below.setCell ?_ (by simp) _)
def enterV (T : List TK) (P : List TP) (V : List Int) (p : TP) : Int × Int :=
 if zQ T P V ≠ 0 then (0, zQ T P V) else if unf T P p ≠ 0 then (0, unf T P p) else if yZ P p.m = true then (0, 4)
 else if (judB T (P.zip V) p).2 ≠ 0 then judB T (P.zip V) p else if P.length = 60 then (0, 2) else ((judB T (P.zip V) p).1, 0)
theorem tapsE_all {T : List TK} {P : List TP} {V : List Int} (h : tapsE T P V = 0) : ∀ j, j < P.length → errP T P V j = 0 := fun j hj => yS _ h _ (List.mem_map.2 ⟨j, List.mem_range.2 hj, rfl⟩)
theorem errP_all_chk {T : List TK} {P : List TP} {V : List Int} (h : tapsE T P V = 0) : ∀ x ∈ P, zS x = 0 := by
 intro x hx
 obtain ⟨j, hj⟩ := List.mem_iff_getElem?.1 hx
 exact errP_chk hj (tapsE_all h j (List.getElem?_eq_some_iff.1 hj).1)
theorem enter_right {T : List TK} {P : List TP} {V : List Int} {p : TP} (h : (enterV T P V p).2 = 0) :
  zQ T P V = 0 ∧ unf T P p = 0 ∧ yZ P p.m = false ∧ (judB T (P.zip V) p).2 = 0 ∧ P.length < 60 ∧ (enterV T P V p).1 = (judB T (P.zip V) p).1 := by
 by_cases h1 : zQ T P V = 0
 ·by_cases h2 : unf T P p = 0
  ·cases h3 : yZ P p.m
   ·by_cases h4 : (judB T (P.zip V) p).2 = 0
    ·by_cases h5 : P.length = 60
     ·simp [enterV, h1, h2, h3, h4, h5] at h
     ·have := (zE h1).2.1
      refine ⟨h1, h2, rfl, h4, by omega, ?_⟩
      simp [enterV, h1, h2, h3, h4, h5]
    ·simp [enterV, h1, h2, h3, h4] at h
   ·simp [enterV, h1, h2, h3] at h
  ·simp [enterV, h1, h2] at h
 ·simp [enterV, h1] at h
theorem judge_ok {k f t z r last rides m zone : Int} (h : (judge k f t z r last rides m zone).2 = 0) : (judge k f t z r last rides m zone).1 = 2 ∨ ((judge k f t z r last rides m zone).1 = 1 ∧ ¬ ((k = 1 ∧ 0 < rides) ∨ (k = 3 ∧ r ≤ rides))) := by
 unfold judge at h ⊢
 by_cases h1 : place f t z m zone = 0
 ·rw [if_neg (by simpa using h1)] at h ⊢
  by_cases h2 : 0 ≤ last ∧ last ≤ m ∧ m < last + 60
  ·rw [if_pos h2]; exact Or.inl rfl
  ·rw [if_neg h2] at h ⊢
   by_cases h3 : (k = 1 ∧ 0 < rides) ∨ (k = 3 ∧ r ≤ rides)
   ·rw [if_pos h3] at h; simp at h
   ·rw [if_neg h3]; exact Or.inr ⟨rfl, h3⟩
 ·rw [if_pos h1] at h
  exact absurd h h1
theorem judge_one {k f t z r last rides m zone : Int} (h : (judge k f t z r last rides m zone).1 = 1) : ¬ ((k = 1 ∧ 0 < rides) ∨ (k = 3 ∧ r ≤ rides)) := by
 unfold judge at h
 by_cases h1 : place f t z m zone = 0
 ·rw [if_neg (by simpa using h1)] at h
  by_cases h2 : 0 ≤ last ∧ last ≤ m ∧ m < last + 60
  ·rw [if_pos h2] at h; simp at h
  ·rw [if_neg h2] at h
   intro h3
   rw [if_pos h3] at h
   simp at h
 ·rw [if_pos h1] at h
  simp at h
theorem enter_verd {T : List TK} {P : List TP} {V : List Int} {p : TP} (h : (enterV T P V p).2 = 0) : (enterV T P V p).1 = 1 ∨ (enterV T P V p).1 = 2 := by
 obtain ⟨h1, h2, h3, h4, h5, h6⟩ := enter_right h
 obtain ⟨r1, r2, r3, r4, r5⟩ := zE h1
 have hu := unf_has h2
 have e := judB_verd (V := V) (i := P.length) (zW r4) (yG r4) (fun x hx => errP_all_chk r5 x (List.mem_of_mem_take hx)) r2 hu.1 hu.2.1
 rw [List.take_of_length_le (by rw [List.length_zip]; omega)] at e
 rw [h6, e]
 rw [e] at h4
 unfold verd at h4 ⊢
 rcases judge_ok h4 with h | h
 ·exact Or.inr h
 ·exact Or.inl h.1
def bounded (x : TK) (c : Nat) : Prop := (x.k = 1 → c ≤ 1) ∧ (x.k = 3 → (c : Int) ≤ x.r)
theorem rides_bounded {T : List TK} {P : List TP} {V : List Int} (h : zQ T P V = 0) {x : TK} (hx : x ∈ T) : bounded x (zG (P.zip V) x.i).length := by
 obtain ⟨r1, r2, r3, r4, r5⟩ := zE h
 have hr := zW r4
 have hc := yG r4 x hx
 have key : ∀ n, n ≤ P.length → bounded x (zG ((P.zip V).take n) x.i).length := by
  intro n
  induction n with
  | zero =>
   intro _
   refine ⟨fun _ => by simp [zG], fun h3 => ?_⟩
   have hf := (chk_right hc).2.2.2.2.2.2
   rw [yO, if_pos h3, yH] at hf
   simp [zG]
   omega
  | succ n ih =>
   intro hn
   have ih := ih (by omega)
   obtain ⟨p, hp⟩ : ∃ p, P[n]? = some p := ⟨P[n]'(by omega), by simp⟩
   obtain ⟨v, hv⟩ : ∃ v, V[n]? = some v := ⟨V[n]'(by omega), by simp⟩
   have hz : (P.zip V)[n]? = some (p, v) := by rw [List.getElem?_zip_eq_some]; exact ⟨hp, hv⟩
   rw [List.take_add_one, hz, Option.toList_some, ridesL_snoc]
   by_cases hcnd : (p.a == x.i && v == 1) = true
   ·rw [if_pos hcnd, List.length_append, List.length_singleton]
    obtain ⟨ha, hv1⟩ : p.a = x.i ∧ v = 1 := by simpa using hcnd
    have hE := tapsE_all r5 n (by omega)
    have gp : P.getD n tp0 = p := by simp [List.getD, hp]
    have gv : V.getD n 0 = v := by simp [List.getD, hv]
    have h6 := yS _ hE (if (verd T P V n (P.getD n tp0)).1 = V.getD n 0 then 0 else 4) (by simp)
    rw [gp, gv] at h6
    have h7 : (verd T P V n p).1 = 1 := by
     by_cases e : (verd T P V n p).1 = v
     ·rw [e, hv1]
     ·rw [if_neg e] at h6; cases h6
    have hidx : T.getD (idxT T p.a).toNat tk0 = x := by
     have hh : yF T p.a = true := by
      rw [yF, List.any_eq_true]
      exact ⟨x, hx, by simp [ha]⟩
     obtain ⟨y, hy, hyi, hyx⟩ := hasT_pos hr hh
     have : y = x := by
      obtain ⟨q, hq⟩ := List.mem_iff_getElem?.1 hx
      rcases Nat.lt_trichotomy (posT T p.a) q with h' | h' | h'
      ·have := hr _ _ _ _ hy hq h'; omega
      ·rw [h', hq] at hy; cases hy; rfl
      ·have := hr _ _ _ _ hq hy h'; omega
     rw [hyx, show ((posT T p.a : Int)).toNat = posT T p.a from rfl]
     simp [List.getD, hy, this]
    unfold verd at h7
    rw [hidx, many_rides, ha] at h7
    have h8 := judge_one h7
    obtain ⟨b1, b2⟩ := ih
    refine ⟨fun hk => ?_, fun hk => ?_⟩
    ·have := b1 hk
     have : ¬ (0 : Int) < ((zG ((P.zip V).take n) x.i).length : Int) := fun h => h8 (Or.inl ⟨hk, h⟩)
     omega
    ·have : ¬ x.r ≤ ((zG ((P.zip V).take n) x.i).length : Int) := fun h => h8 (Or.inr ⟨hk, h⟩)
     simp
     omega
   ·rw [if_neg hcnd]
    exact ih
 have := key P.length (Nat.le_refl _)
 rwa [List.take_of_length_le (by rw [List.length_zip]; omega)] at this
theorem hasT_mem {T : List TK} {x : TK} (hx : x ∈ T) : yF T x.i = true := by
 rw [yF, List.any_eq_true]
 exact ⟨x, hx, by simp⟩
theorem judge_snd {k f t z r last rides m zone : Int} (h : (judge k f t z r last rides m zone).1 ≠ 3) : (judge k f t z r last rides m zone).2 = 0 := by
 unfold judge at h ⊢
 by_cases h1 : place f t z m zone = 0
 ·rw [if_neg (by simpa using h1)] at h ⊢
  by_cases h2 : 0 ≤ last ∧ last ≤ m ∧ m < last + 60
  ·rw [if_pos h2]
  ·rw [if_neg h2] at h ⊢
   by_cases h3 : (k = 1 ∧ 0 < rides) ∨ (k = 3 ∧ r ≤ rides)
   ·rw [if_pos h3] at h; simp at h
   ·rw [if_neg h3]
 ·rw [if_pos h1] at h
  simp at h
theorem errP_take {T : List TK} {P : List TP} {V : List Int} (n j : Nat) (hj : j < n) : errP T (P.take n) (V.take n) j = errP T P V j := by
 have g1 : (P.take n).getD j tp0 = P.getD j tp0 := by simp only [List.getD, List.getElem?_take, if_pos hj]
 have g2 : (P.take n).getD (j - 1) tp0 = P.getD (j - 1) tp0 := by simp only [List.getD, List.getElem?_take, if_pos (show j - 1 < n by omega)]
 have g3 : (V.take n).getD j 0 = V.getD j 0 := by simp only [List.getD, List.getElem?_take, if_pos hj]
 have g4 : (P.take n).take j = P.take j := by rw [List.take_take, Nat.min_eq_left (by omega)]
 have g5 : ((P.take n).zip (V.take n)).take j = (P.zip V).take j := by rw [zip_take, List.take_take, Nat.min_eq_left (by omega)]
 unfold errP verd
 rw [g1, g2, g3, g4, g5]
theorem prefix_chk {T : List TK} {P : List TP} {V : List Int} (h : zQ T P V = 0) (n : Nat) (hn : n ≤ P.length) : zQ T (P.take n) (V.take n) = 0 := by
 obtain ⟨r1, r2, r3, r4, r5⟩ := zE h
 refine chkL_ok (by rw [List.length_take, List.length_take]; omega) (ticksE_all r4) (fun j hj => ?_)
 rw [List.length_take] at hj
 rw [errP_take n j (by omega)]
 exact tapsE_all r5 j (by omega)
theorem prefix_enter {T : List TK} {P : List TP} {V : List Int} (h : zQ T P V = 0) {n : Nat} {p : TP} {v : Int} (hp : P[n]? = some p) (hv : V[n]? = some v) : enterV T (P.take n) (V.take n) p = (v, 0) := by
 obtain ⟨r1, r2, r3, r4, r5⟩ := zE h
 have hn := (List.getElem?_eq_some_iff.1 hp).1
 have hck := prefix_chk h n (by omega)
 have hall : ∀ x ∈ P.take n, zS x = 0 := fun x hx => errP_all_chk r5 x (List.mem_of_mem_take hx)
 have e := tapE_errP (V := V) (zW r4) (yG r4) (by omega) hall hp hv
 rw [tapsE_all r5 n hn] at e
 have h0 := yS _ e
 have u : unf T (P.take n) p = 0 := h0 _ (by simp)
 have hu := unf_has u
 have hw : wi v 1 2 = true := by
  have := h0 (if wi v 1 2 = true then 0 else 7) (by simp)
  cases hc : wi v 1 2
  ·simp [hc] at this
  ·rfl
 have hea : yZ (P.take n) p.m = false := by
  have := h0 (if yZ (P.take n) p.m = true then 4 else 0) (by simp)
  cases hc : yZ (P.take n) p.m
  ·rfl
  ·simp [hc] at this
 have hj : (judB T ((P.take n).zip (V.take n)) p).1 = v := by
  have := h0 (if (judB T ((P.take n).zip (V.take n)) p).1 = v then 0 else 4) (by simp)
  by_cases hc : (judB T ((P.take n).zip (V.take n)) p).1 = v
  ·exact hc
  ·rw [if_neg hc] at this; cases this
 have hj2 : (judB T ((P.take n).zip (V.take n)) p).2 = 0 := by
  rw [yH] at hw
  have ev := judB_verd (V := V) (i := n) (zW r4) (yG r4) hall (by omega) hu.1 hu.2.1
  rw [zip_take] at hj ⊢
  rw [ev] at hj ⊢
  unfold verd at hj ⊢
  exact judge_snd (by omega)
 have hl : ¬ (P.take n).length = 60 := by rw [List.length_take]; omega
 simp only [enterV, hck, u, hea, hj2, hl, hj]
 simp
theorem LedV.opened {w : World} {v : Value} {T : List TK} {P : List TP} {V : List Int} (h : LedV w v T P V) : ∃ o1 c1 o2 c2 o3 c3, v = lg o1 o2 o3 T.length c1 P.length c2 V.length c3 ∧ zH w o1 T ∧ zD w o2 P ∧ zF w o3 V ∧
  (T.length ≤ c1 ∧ P.length ≤ c2 ∧ V.length ≤ c3) ∧ (o1 = none → c1 = 0) ∧ (o2 = none → c2 = 0) ∧ (o3 = none → c3 = 0) := by
 obtain ⟨v1, v2, v3, rfl, ⟨o1, c1, rfl, a1, a2, a3⟩, ⟨o2, c2, rfl, b1, b2, b3⟩, ⟨o3, c3, rfl, d1, d2, d3⟩⟩ := h
 exact ⟨o1, c1, o2, c2, o3, c3, rfl, a1, b1, d1, ⟨a2, b2, d2⟩, a3, b3, d3⟩
def LensOk (T : List TK) (P : List TP) (V : List Int) : Prop := T.length ≤ 9223372036854775807 ∧ P.length ≤ 9223372036854775807 ∧ V.length ≤ 9223372036854775807
theorem checkV {w : World} {v : Value} {T : List TK} {P : List TP} {V : List Int} (h : LedV w v T P V) (hl : LensOk T P V) : Calls Tryz.prog 14 #[v] w fun e w' => e = .returned (.int .i64 (zQ T P V)) ∧ Below w.heap.size w w' := by
 obtain ⟨o1, c1, o2, c2, o3, c3, rfl, a1, a2, a3, ⟨-, l2, l3⟩, -⟩ := h.opened
 exact checkLed_any T P V o1 o2 o3 c1 c2 c3 w a1 a2 a3 hl.1 hl.2.1 hl.2.2 l2 l3
def bookT : List TK := [⟨1, 1, 10, 500, 15, 0⟩, ⟨4, 3, 0, 900, 3, 2⟩]
def bookP : List TP := [⟨1, 0, 1, 20, 1⟩, ⟨1, 1, 1, 60, 1⟩]
def bookV : List Int := [1, 2]
theorem book_lens : LensOk bookT bookP bookV := by simp [LensOk, bookT, bookP, bookV]
theorem book_any (w : World) : Calls Tryz.prog 37 #[] w fun e w' => (∃ v, e = .returned v ∧ LedV w' v bookT bookP bookV) ∧ Below w.heap.size w w' := by
 go_enter Tryz.func37, Tryz.ntmps37
 go_wp2_with fail
 refine (single_any _ _).mono ?_
 rintro e w1 ⟨rfl, hb1⟩
 have hrow1 : w1.heap[w.heap.size]? = some (cL none none none 0 0 0 0 0 0 26) := by rw [hb1.block _ (by simp)]; exact heap_alloc_new' _ _ _ rfl
 have HB1 := zA (((Below.refl w.heap.size w).alloc (Nat.le_refl _) (cL none none none 0 0 0 0 0 0 26)).trans (hb1.mono (by simp)))
 have hs1 := hb1.size
 simp at hs1
 clear hb1
 go_wp2_with fail
 have HT1 : Hid (TiksV (w1.alloc (.cells #[.int .i64 1, .int .i64 1, .int .i64 10, .int .i64 500, .int .i64 15, .int .i64 0, .int .i64 4, .int .i64 3, .int .i64 0, .int .i64 900, .int .i64 3, .int .i64 2] 51)) (.slice (some ⟨w1.heap.size, 0, none⟩) 2 2) bookT) :=
  zA (tiksV_own (base := 0) (n := 2) ⟨rfl, .inr ⟨w1.heap.size, 2, _, rfl, Nat.zero_le _, heap_alloc_new _ _, Nat.le_refl _, by decide, rfl, rfl⟩⟩)
 have hrow2 : (w1.alloc (.cells #[.int .i64 1, .int .i64 1, .int .i64 10, .int .i64 500, .int .i64 15, .int .i64 0, .int .i64 4, .int .i64 3, .int .i64 0, .int .i64 900, .int .i64 3, .int .i64 2] 51)).heap[w.heap.size]? = some (cL none none none 0 0 0 0 0 0 26) := by
  rw [heap_alloc_old w1 _ (show w.heap.size < w1.heap.size by omega)]; exact hrow1
 have HB2 := zA (HB1.out.alloc HB1.out.size (.cells #[.int .i64 1, .int .i64 1, .int .i64 10, .int .i64 500, .int .i64 15, .int .i64 0, .int .i64 4, .int .i64 3, .int .i64 0, .int .i64 900, .int .i64 3, .int .i64 2] 51))
 have hs2 : w.heap.size < (w1.alloc (.cells #[.int .i64 1, .int .i64 1, .int .i64 10, .int .i64 500, .int .i64 15, .int .i64 0, .int .i64 4, .int .i64 3, .int .i64 0, .int .i64 900, .int .i64 3, .int .i64 2] 51)).heap.size := by simp; omega
 have hf1 : yD (w.heap.size + 1) (.slice (some ⟨w1.heap.size, 0, none⟩) 2 2) := fun k hk => by simp [Value.ownBlock] at hk; omega
 generalize (.slice (some ⟨w1.heap.size, 0, none⟩) 2 2 : Value) = vT at *
 generalize w1.alloc (.cells #[.int .i64 1, .int .i64 1, .int .i64 10, .int .i64 500, .int .i64 15, .int .i64 0, .int .i64 4, .int .i64 3, .int .i64 0, .int .i64 900, .int .i64 3, .int .i64 2] 51) = w2 at *
 refine (at_any _ _ _ _ _).mono ?_
 rintro e w3 ⟨rfl, hb3⟩
 have HT3 := zA (HT1.out.below hb3)
 have HB3 := zA (HB2.out.trans (hb3.mono HB2.out.size))
 have hrow3 : w3.heap[w.heap.size]? = some (cL none none none 0 0 0 0 0 0 26) := by rw [hb3.block _ hs2]; exact hrow2
 have hs3 := Nat.lt_of_lt_of_le hs2 hb3.size
 clear hb3 HT1 HB2 hrow2 hs2 hrow1 hs1 HB1
 go_wp2_with fail
 refine (at_any _ _ _ _ _).mono ?_
 rintro e w4 ⟨rfl, hb4⟩
 have HT4 := zA (HT3.out.below hb4)
 have HB4 := zA (HB3.out.trans (hb4.mono HB3.out.size))
 have hrow4 : w4.heap[w.heap.size]? = some (cL none none none 0 0 0 0 0 0 26) := by rw [hb4.block _ hs3]; exact hrow3
 have hs4 := Nat.lt_of_lt_of_le hs3 hb4.size
 clear hb4 HT3 HB3 hrow3 hs3
 obtain ⟨oT, cT, rfl, hT4⟩ := HT4.out
 have r0 := cell_of_row _ _ 0 _ _ _ hrow4
 have r1 := cell_of_row _ _ 1 _ _ _ hrow4
 have r2 := cell_of_row _ _ 2 _ _ _ hrow4
 have s0 := frozen_of_row _ _ 0 _ _ hrow4
 have s1 := frozen_of_row _ _ 1 _ _ hrow4
 have s2 := frozen_of_row _ _ 2 _ _ hrow4
 simp at r0 r1 r2
 clear hrow4 hT4
 go_wp2_with fail
 have hT5 := ((HT4.out.set hf1 (p := ⟨w.heap.size, 0, none⟩) (by simp) (.slice oT bookT.length cT)).set hf1 (p := ⟨w.heap.size, 1, none⟩) (by simp) (.slice (some ⟨w4.heap.size, 0, none⟩) 2 2)).set hf1 (p := ⟨w.heap.size, 2, none⟩) (by simp) (.slice (some ⟨w4.heap.size + 1, 0, none⟩) 2 2)
 have hB5 := ((HB4.out.setCell (p := ⟨w.heap.size, 0, none⟩) (by simp) (.slice oT bookT.length cT)).setCell (p := ⟨w.heap.size, 1, none⟩) (by simp) (.slice (some ⟨w4.heap.size, 0, none⟩) 2 2)).setCell (p := ⟨w.heap.size, 2, none⟩) (by simp) (.slice (some ⟨w4.heap.size + 1, 0, none⟩) 2 2)
 have hL5 : Led3 (((w4.setCell ⟨w.heap.size, 0, none⟩ (.slice oT bookT.length cT)).setCell ⟨w.heap.size, 1, none⟩ (.slice (some ⟨w4.heap.size, 0, none⟩) 2 2)).setCell ⟨w.heap.size, 2, none⟩ (.slice (some ⟨w4.heap.size + 1, 0, none⟩) 2 2)) w.heap.size oT (some ⟨w4.heap.size, 0, none⟩) (some ⟨w4.heap.size + 1, 0, none⟩) bookT.length cT 2 2 2 2 := by
  refine ⟨?_, ?_, ?_⟩
  all_goals simp [go_sem, r0, r1, r2]
 have hs5 : (((w4.setCell ⟨w.heap.size, 0, none⟩ (.slice oT bookT.length cT)).setCell ⟨w.heap.size, 1, none⟩ (.slice (some ⟨w4.heap.size, 0, none⟩) 2 2)).setCell ⟨w.heap.size, 2, none⟩ (.slice (some ⟨w4.heap.size + 1, 0, none⟩) 2 2)).heap.size = w4.heap.size := by simp [World.setCell]
 generalize ((w4.setCell ⟨w.heap.size, 0, none⟩ (.slice oT bookT.length cT)).setCell ⟨w.heap.size, 1, none⟩ (.slice (some ⟨w4.heap.size, 0, none⟩) 2 2)).setCell ⟨w.heap.size, 2, none⟩ (.slice (some ⟨w4.heap.size + 1, 0, none⟩) 2 2) = w5 at *
 rw [← hs5] at hL5
 simp only [← hs5]
 have hP6 : yR (w5.alloc (.cells #[.int .i64 1, .int .i64 0, .int .i64 1, .int .i64 20, .int .i64 1, .int .i64 1, .int .i64 1, .int .i64 1, .int .i64 60, .int .i64 1] 66)) (.slice (some ⟨w5.heap.size, 0, none⟩) 2 2) bookP :=
  tapsV_own (base := 0) (n := 2) ⟨rfl, .inr ⟨w5.heap.size, 2, _, rfl, Nat.zero_le _, heap_alloc_new _ _, Nat.le_refl _, by decide, rfl, rfl⟩⟩
 have hb6 := (Below.refl w5.heap.size w5).alloc (Nat.le_refl _) (.cells #[.int .i64 1, .int .i64 0, .int .i64 1, .int .i64 20, .int .i64 1, .int .i64 1, .int .i64 1, .int .i64 1, .int .i64 60, .int .i64 1] 66)
 have hs6 : (w5.alloc (.cells #[.int .i64 1, .int .i64 0, .int .i64 1, .int .i64 20, .int .i64 1, .int .i64 1, .int .i64 1, .int .i64 1, .int .i64 60, .int .i64 1] 66)).heap.size = w5.heap.size + 1 := by simp
 generalize w5.alloc (.cells #[.int .i64 1, .int .i64 0, .int .i64 1, .int .i64 20, .int .i64 1, .int .i64 1, .int .i64 1, .int .i64 1, .int .i64 60, .int .i64 1] 66) = w6 at *
 have hV7 : yQ (w6.alloc (.cells #[.int .i64 1, .int .i64 2] 3)) (.slice (some ⟨w6.heap.size, 0, none⟩) 2 2) bookV :=
  intsV_own (base := 0) (n := 2) ⟨rfl, .inr ⟨w6.heap.size, 2, _, rfl, Nat.zero_le _, heap_alloc_new _ _, Nat.le_refl _, by decide, rfl, rfl⟩⟩
 have hb7 := (Below.refl w6.heap.size w6).alloc (Nat.le_refl _) (.cells #[.int .i64 1, .int .i64 2] 3)
 have hlt := hL5.lt
 obtain ⟨g0, g1, g2⟩ := (hL5.below hb6 hlt).below hb7 (Nat.lt_of_lt_of_le hlt hb6.size)
 refine bodyPost_ret (v := lg oT (some ⟨w5.heap.size, 0, none⟩) (some ⟨w5.heap.size + 1, 0, none⟩) bookT.length cT 2 2 2 2) (by simp [results, Tryz.results37, go_sem, g0, g1, g2]) rfl ⟨⟨_, rfl, _, _, _, rfl, (hT5.below hb6).below hb7, hP6.below hb7, ?_⟩, (hB5.trans (hb6.mono hB5.size)).trans (hb7.mono (Nat.le_trans hB5.size hb6.size))⟩
 rw [← hs6]
 exact hV7
theorem chkL_verds {T : List TK} {P : List TP} {V : List Int} (h : zQ T P V = 0) : ∀ v ∈ V, v = 1 ∨ v = 2 := by
 intro v hv
 obtain ⟨n, hn⟩ := List.mem_iff_getElem?.1 hv
 have hl := (zE h).2.2.1
 have hlt := (List.getElem?_eq_some_iff.1 hn).1
 obtain ⟨p, hp⟩ : ∃ p, P[n]? = some p := ⟨P[n]'(by omega), by simp⟩
 have e := prefix_enter h hp hn
 have := enter_verd (T := T) (P := P.take n) (V := V.take n) (p := p) (by rw [e])
 rw [e] at this
 exact this
def tikOf (T : List TK) (id : Int) : TK := T.getD (posT T id) tk0
def leftV (T : List TK) (P : List TP) (V : List Int) (id : Int) : Int × Int :=
 if (zX T P V id).2 = 0 then (allR (tikOf T id).k (tikOf T id).r - (zX T P V id).1, 0) else (0, (zX T P V id).2)
theorem ridesV_ok {T : List TK} {P : List TP} {V : List Int} {id : Int} (h : (zX T P V id).2 = 0) : zQ T P V = 0 ∧ yF T id = true := by
 unfold zX at h
 by_cases h1 : zQ T P V ≠ 0
 ·rw [if_pos h1] at h; exact absurd h h1
 ·refine ⟨by simpa using h1, ?_⟩
  rw [if_neg h1] at h
  cases h2 : yF T id
  ·rw [h2] at h; simp at h
  ·rfl
theorem ridesV_fst {T : List TK} {P : List TP} {V : List Int} {id : Int} (h : (zX T P V id).2 = 0) : (zX T P V id).1 = ((zG (P.zip V) id).length : Int) ∧ (zG (P.zip V) id).length ≤ 60 := by
 obtain ⟨h1, h2⟩ := ridesV_ok h
 refine ⟨by unfold zX; rw [if_neg (by simp [h1]), if_pos h2], ?_⟩
 have := ridesL_len (P.zip V) id
 rw [List.length_zip] at this
 have := (zE h1).2.1
 omega
theorem tikOf_at {T : List TK} {id : Int} (hr : Rising T) (h : yF T id = true) : T[posT T id]? = some (tikOf T id) ∧ (tikOf T id).i = id ∧ idxT T id = posT T id := by
 obtain ⟨x, hx, e1, e2⟩ := hasT_pos hr h
 have : tikOf T id = x := by rw [tikOf, List.getD_eq_getElem?_getD, hx]; rfl
 rw [this]
 exact ⟨hx, e1, e2⟩
theorem chkK_rides {x : TK} (h : chkK x = 0) : 0 ≤ x.r ∧ x.r ≤ 9 := by
 unfold chkK chk at h
 by_cases h4 : yO x.k x.r = true
 ·unfold yO at h4
  by_cases h3 : x.k = 3
  ·rw [if_pos h3] at h4
   have := (yH _ _ _).1 h4
   omega
  ·rw [if_neg h3] at h4
   simp at h4
   omega
 ·have h4' : yO x.k x.r = false := by simpa using h4
  rw [h4'] at h
  simp at h
  split at h
  ·cases h
  ·split at h
   ·cases h
   ·split at h
    ·cases h
    ·cases h
theorem allR_bound {x : TK} (h : chkK x = 0) : 0 ≤ allR x.k x.r ∧ allR x.k x.r ≤ 60 := by
 have := chkK_rides h
 unfold allR
 split
 ·omega
 ·split <;> omega
theorem leftA_any (T : List TK) (P : List TP) (V : List Int) (g : Int) (o1 o2 o3 : Option Addr) (c1 c2 c3 : Nat) (w : World) (hT : zH w o1 T) (hP : zD w o2 P) (hV : zF w o3 V) (hlT : T.length ≤ 9223372036854775807) (hlP : P.length ≤ 9223372036854775807) (hlV : V.length ≤ 9223372036854775807)
  (hc2 : P.length ≤ c2) (hc3 : V.length ≤ c3) :
  Calls Tryz.prog 49 #[lg o1 o2 o3 T.length c1 P.length c2 V.length c3, .int .i64 g] w fun e w' => e = .returned (.tuple #[.int .i64 (leftV T P V g).1, .int .i64 (leftV T P V g).2]) ∧ Below w.heap.size w w' := by
 have HC := zA (fun W (h : zH W o1 T) (h' : zD W o2 P) (h'' : zF W o3 V) => ridesLed_any T P V g o1 o2 o3 c1 c2 c3 W h h' h'' hlT hlP hlV hc2 hc3)
 have HI := zA (fun (B : Nat) W (h : zH W o1 T) hc => indexL_any B g T o1 c1 W h hlT hc)
 have HA := zA (fun W => allRides_any (tikOf T g).i (tikOf T g).k (tikOf T g).f (tikOf T g).t (tikOf T g).z (tikOf T g).r W)
 have H0 := zA (fun (h0 : (zX T P V g).2 = 0) => And.intro (tikOf_at (zW (zE (ridesV_ok h0).1).2.2.2.1) (ridesV_ok h0).2) (ridesV_fst h0))
 have HBd := zA (fun (h0 : (zX T P V g).2 = 0) => allR_bound (yG (zE (ridesV_ok h0).1).2.2.2.1 _ (List.mem_of_getElem? (tikOf_at (zW (zE (ridesV_ok h0).1).2.2.2.1) (ridesV_ok h0).2).1)))
 have HT := zA hT
 have HP := zA hP
 have HV := zA hV
 clear hT hP hV hlT hlP hlV hc2 hc3
 generalize hR : leftV T P V g = R
 unfold leftV at hR
 generalize allR (tikOf T g).k (tikOf T g).r = AR at *
 generalize (zX T P V g).1 = X1 at *
 generalize (zX T P V g).2 = X at *
 generalize tikOf T g = tx at *
 generalize posT T g = pos at *
 by_cases hX : X = 0
 ·subst hX
  obtain ⟨⟨ht, hti, hid⟩, hx1, hx2⟩ := H0.out rfl
  obtain ⟨ha1, ha2⟩ := HBd.out rfl
  clear H0 HBd
  rw [if_pos rfl] at hR
  subst hR
  rw [hid] at HI
  generalize (zG (P.zip V) g).length = rl at *
  have HX1 := zA hx1
  have hx3 : 0 ≤ X1 ∧ X1 ≤ 60 := by omega
  obtain ⟨hx3, hx4⟩ := hx3
  have hpos := (List.getElem?_eq_some_iff.1 ht).1
  have HTt := zA ht
  clear ht hti hid hx1 hx2
  have hwr : IntKind.i64.wrap (AR - X1) = AR - X1 := by rw [IntKind.wrap_i64]; omega
  have hlc : (0 : Int) ≤ pos := by omega
  have hlc2 : (pos : Int) < T.length := by omega
  go_enter Tryz.func49, Tryz.ntmps49
  go_wp2_with fail
  have HG1 := zA (((zM.nil w).more (.cells #[.slice o1 T.length c1, .slice o2 P.length c2, .slice o3 V.length c3] 26) (by simp)).more (.cells #[.int .i64 g] 3) (by simp))
  refine (HC.out _ (HT.out.below HG1.out.2.2) (HP.out.below HG1.out.2.2) (HV.out.below HG1.out.2.2)).mono ?_
  rintro e w1 ⟨rfl, hb⟩
  have HG1w1 := zA (HG1.out.on hb)
  clear hb HG1
  have lG1_0 := HG1w1.out.lt 0 w.heap.size (by simp) rfl
  obtain ⟨cG1_0_0, cG1_0_1, cG1_0_2⟩ := HG1w1.out.c3 0 w.heap.size rfl rfl rfl rfl rfl
  have lG1_1 := HG1w1.out.lt 1 (w.heap.size + 1) (by simp) rfl
  have cG1_1_0 := HG1w1.out.cell 1 0 (w.heap.size + 1) _ _ _ rfl rfl rfl
  go_wp2_with fail
  refine (HI.out (w.heap.size + 1) _ (HT.out.below HG1w1.out.2.2) cG1_1_0).mono ?_
  rintro e w2 ⟨rfl, hb⟩
  have HG1w2 := zA (HG1w1.out.on hb)
  clear lG1_0 cG1_0_0 cG1_0_1 cG1_0_2 lG1_1 cG1_1_0
  clear hb HG1w1
  have lG1_0 := HG1w2.out.lt 0 w.heap.size (by simp) rfl
  obtain ⟨cG1_0_0, cG1_0_1, cG1_0_2⟩ := HG1w2.out.c3 0 w.heap.size rfl rfl rfl rfl rfl
  have lG1_1 := HG1w2.out.lt 1 (w.heap.size + 1) (by simp) rfl
  have cG1_1_0 := HG1w2.out.cell 1 0 (w.heap.size + 1) _ _ _ rfl rfl rfl
  obtain ⟨A, rfl, e0, e1, e2, e3, e4, e5⟩ := (HT.out.below HG1w2.out.2.2) pos tx HTt.out
  go_wp2_with fail
  refine (HA.out _).mono ?_
  rintro e w3 ⟨rfl, hb⟩
  have HG1w3 := zA (HG1w2.out.on hb)
  clear lG1_0 cG1_0_0 cG1_0_1 cG1_0_2 lG1_1 cG1_1_0 e0 e1 e2 e3 e4 e5
  clear hb HG1w2
  go_wp2_with fail
  go_ret2
  exact ⟨rfl, HG1w3.out.2.2⟩
 ·have hX' : (X != 0) = true := by simpa using hX
  rw [if_neg hX] at hR
  subst hR
  clear hX H0 HBd
  go_enter Tryz.func49, Tryz.ntmps49
  go_wp2_with fail
  have HG1 := zA (((zM.nil w).more (.cells #[.slice o1 T.length c1, .slice o2 P.length c2, .slice o3 V.length c3] 26) (by simp)).more (.cells #[.int .i64 g] 3) (by simp))
  refine (HC.out _ (HT.out.below HG1.out.2.2) (HP.out.below HG1.out.2.2) (HV.out.below HG1.out.2.2)).mono ?_
  rintro e w1 ⟨rfl, hb⟩
  have HG1w1 := zA (HG1.out.on hb)
  clear hb HG1
  have lG1_0 := HG1w1.out.lt 0 w.heap.size (by simp) rfl
  obtain ⟨cG1_0_0, cG1_0_1, cG1_0_2⟩ := HG1w1.out.c3 0 w.heap.size rfl rfl rfl rfl rfl
  have lG1_1 := HG1w1.out.lt 1 (w.heap.size + 1) (by simp) rfl
  have cG1_1_0 := HG1w1.out.cell 1 0 (w.heap.size + 1) _ _ _ rfl rfl rfl
  go_wp2_with fail
  go_ret2
  exact ⟨rfl, HG1w1.out.2.2⟩
theorem idxT_get {T : List TK} {id : Int} (h : ¬ idxT T id < 0) : ∃ (k : Nat) (x : TK), idxT T id = k ∧ T[k]? = some x := by
 unfold idxT at h ⊢
 cases hf : T.findIdx? (fun p => p.i == id) with
 | none => rw [hf] at h; simp at h
 | some k =>
  have := (List.findIdx?_eq_some_iff_getElem.1 hf).1
  exact ⟨k, T[k], rfl, by simp⟩
theorem leftOf_any (o1 o2 o3 : Option Addr) (c1 c2 c3 : Nat) (T : List TK) (P : List TP) (V : List Int) (k : Nat) (x : TK) (w : World) (hT : zH w o1 T) (hP : zD w o2 P) (hV : zF w o3 V) (hl : V.length = P.length) (hlen : P.length ≤ 60) (_hlt : T.length ≤ 12) (hk : T[k]? = some x) (hx : chkK x = 0) :
  Calls Tryz.prog 34 #[lg o1 o2 o3 T.length c1 P.length c2 V.length c3, .int .i64 (k : Int)] w fun e w' =>
   e = .returned (.int .i64 (allR x.k x.r - (yA (P.zip V) x.i).1)) ∧ Below w.heap.size w w' := by
 have HX := zA (chkK_rides hx)
 have hkl := (List.getElem?_eq_some_iff.1 hk).1
 have HT := zA hT
 have HP := zA hP
 have HV := zA hV
 have HK := zA hk
 have hmb := many_bound (P.zip V) x.i
 rw [List.length_zip] at hmb
 have HM := zA (fun W (h : zD W o2 P) (h' : zF W o3 V) => manyOf_any o1 o2 o3 T.length c1 c2 c3 P V x.i P.length W h h' (Nat.le_refl _) (by omega) (by omega))
 rw [List.take_of_length_le (l := P.zip V) (by rw [List.length_zip]; omega)] at HM
 obtain ⟨hm0, hm1⟩ := hmb
 have hm2 : (yA (P.zip V) x.i).1 ≤ 60 := by omega
 generalize (yA (P.zip V) x.i).1 = M1 at *
 generalize (yA (P.zip V) x.i).2 = M2 at *
 clear hT hP hV hx hk hl hm1
 have HB0 := zA ((Below.refl _ _).alloc (Nat.le_refl w.heap.size) (.cells #[.slice o1 T.length c1, .slice o2 P.length c2, .slice o3 V.length c3] 26))
 obtain ⟨A, rfl, e0, e1, e2, e3, e4, e5⟩ := (HT.out.below HB0.out) k x HK.out
 go_enter Tryz.func34, Tryz.ntmps34
 go_wp2_with fail
 have d0 : (w.alloc (.cells #[.slice (some A) T.length c1, .slice o2 P.length c2, .slice o3 V.length c3] 26)).cell? ⟨w.heap.size, 0, none⟩ = some (.slice (some A) T.length c1) := by simp [go_sem]
 have d1 : (w.alloc (.cells #[.slice (some A) T.length c1, .slice o2 P.length c2, .slice o3 V.length c3] 26)).cell? ⟨w.heap.size, 1, none⟩ = some (.slice o2 P.length c2) := by simp [go_sem]
 have d2 : (w.alloc (.cells #[.slice (some A) T.length c1, .slice o2 P.length c2, .slice o3 V.length c3] 26)).cell? ⟨w.heap.size, 2, none⟩ = some (.slice o3 V.length c3) := by simp [go_sem]
 have HB1 := zA (Below.refl (w.alloc (.cells #[.slice (some A) T.length c1, .slice o2 P.length c2, .slice o3 V.length c3] 26)).heap.size (w.alloc (.cells #[.slice (some A) T.length c1, .slice o2 P.length c2, .slice o3 V.length c3] 26)))
 have hs : w.heap.size < (w.alloc (.cells #[.slice (some A) T.length c1, .slice o2 P.length c2, .slice o3 V.length c3] 26)).heap.size := by simp
 have hA : (A.add (k * 6)).block < (w.alloc (.cells #[.slice (some A) T.length c1, .slice o2 P.length c2, .slice o3 V.length c3] 26)).heap.size := World.block_lt_of_cell? _ _ e0
 generalize w.alloc (.cells #[.slice (some A) T.length c1, .slice o2 P.length c2, .slice o3 V.length c3] 26) = w1 at *
 have k0 := cell_regrown d0
 have k1 := cell_regrown d1
 have k2 := cell_regrown d2
 have m0 := cell_regrown e0
 have cM : ∀ d os, Calls Tryz.prog 27 #[lg (some A) o2 o3 T.length c1 P.length c2 V.length c3, .int .i64 x.i, .int .i64 (P.length : Int)] (Sort.grow (redrawn w1 d) os) fun e w'' => e = .returned (.tuple #[.int .i64 M1, .int .i64 M2]) ∧ ∃ p : Regrown, w'' = Sort.grow (redrawn w1 p.d) p.os :=
  fun d os => Calls.regrown_of (HM.out _ ((HP.out.below HB0.out).below (below_regrown w1 d os)) ((HV.out.below HB0.out).below (below_regrown w1 d os)))
 refine wp_region_quiet_below (by kernel_rfl) (by kernel_rfl) ?_
 repeat (quiet_step (exact cM _ _))
 refine wpQuiet_nil ?_
 intro _ hw'
 obtain ⟨⟨dq, osq⟩, hw''⟩ := hw'
 subst hw''
 have hbw := below_regrown w1 dq osq
 have HB2 := zA (HB0.out.trans (hbw.mono HB0.out.size))
 have d0' : (Sort.grow (redrawn w1 dq) osq).cell? ⟨w.heap.size, 0, none⟩ = some (.slice (some A) T.length c1) := by rw [hbw.cell (p := ⟨w.heap.size, 0, none⟩) hs]; exact d0
 have f1 : (Sort.grow (redrawn w1 dq) osq).cell? ⟨(A.add (k * 6)).block, (A.add (k * 6)).off + 1, none⟩ = some (.int .i64 x.k) := by rw [hbw.cell (p := ⟨(A.add (k * 6)).block, (A.add (k * 6)).off + 1, none⟩) hA]; exact e1
 have f5 : (Sort.grow (redrawn w1 dq) osq).cell? ⟨(A.add (k * 6)).block, (A.add (k * 6)).off + 5, none⟩ = some (.int .i64 x.r) := by rw [hbw.cell (p := ⟨(A.add (k * 6)).block, (A.add (k * 6)).off + 5, none⟩) hA]; exact e5
 clear k0 k1 k2 m0 cM d0 d1 d2 e0 e1 e2 e3 e4 e5 hbw HB0 HB1 HM hs hA
 generalize Sort.grow (redrawn w1 dq) osq = w2 at *
 obtain ⟨hr0, hr9⟩ := HX.out
 have hAR : ((x.k == 1) = true ∧ allR x.k x.r = 1) ∨ ((x.k == 1) = false ∧ (x.k == 2) = true ∧ allR x.k x.r = 60) ∨ ((x.k == 1) = false ∧ (x.k == 2) = false ∧ allR x.k x.r = x.r) := by
  unfold allR
  by_cases k1 : x.k = 1
  ·simp [k1]
  ·by_cases k2 : x.k = 2
   ·simp [k2]
   ·simp [k1, k2]
 have hw1 : IntKind.i64.wrap (1 - M1) = 1 - M1 := by rw [IntKind.wrap_i64]; omega
 have hw2 : IntKind.i64.wrap (60 - M1) = 60 - M1 := by rw [IntKind.wrap_i64]; omega
 have hw3 : IntKind.i64.wrap (x.r - M1) = x.r - M1 := by rw [IntKind.wrap_i64]; omega
 rcases hAR with ⟨q1, q3⟩ | ⟨q1, q2, q3⟩ | ⟨q1, q2, q3⟩
 all_goals
  have HQ := zA q3
  clear q3
  go_wp2_with fail
  try go_region
  try go_wp2_with fail
  go_ret
  exact ⟨by rw [HQ.out]; rfl, by first | exact HB2.out | exact HB2.out.drew⟩
theorem info5 : (Tryz.prog.info? 5).map (fun i => (i.zero, i.size, i.bytes)) = some (some (.int .u8 0), 1, 1) := by kernel_rfl
def digs (n wd k : Nat) : List UInt8 := (List.range k).map fun q => UInt8.ofNat (n / 256 ^ (wd - 1 - q))
theorem digs_succ (n wd k : Nat) : digs n wd (k + 1) = digs n wd k ++ [UInt8.ofNat (n / 256 ^ (wd - 1 - k))] := by simp [digs, List.range_succ]
def putL (wd : Nat) (ns : List Nat) : List UInt8 := ns.flatMap fun n => digs n wd wd
def bv (l : List UInt8) : List Value := l.map fun b => Value.int .u8 (b.toNat : Int)
theorem bv_snoc (l : List UInt8) (b : UInt8) : bv (l ++ [b]) = bv l ++ [Value.int .u8 (b.toNat : Int)] := by simp [bv]
theorem putL_take (wd : Nat) (ns : List Nat) (j n : Nat) (h : ns[j]? = some n) : putL wd (ns.take (j + 1)) = putL wd (ns.take j) ++ digs n wd wd := by
 rw [List.take_add_one, h]; simp [putL]
theorem run_str (W : World) (g n cap base : Nat) (l : List UInt8) (hown : W.ownsRow base 5 1 (.slice (some ⟨g, 0, none⟩) n cap) n (bv l)) :
  (convert 54 9 (.slice (some ⟨g, 0, none⟩) n cap)).run Tryz.prog W = .ok (.string ⟨l.toArray⟩) W := by
 have hn : l.length = n := by have := hown.1; simpa [bv] using this
 subst hn
 exact run_convert_bytes_back W 54 9 5 ⟨g, 0, none⟩ cap l Tryz.underlying54 Tryz.underlying5 Tryz.underlying9 (fun j hj => by
  exact hown.cells rfl j _ (by simp [bv, List.getElem?_eq_getElem hj]))
theorem byteOf (n e : Nat) : ((n : Int) / 2 ^ (8 * e) % 256) = ((UInt8.ofNat (n / 256 ^ e)).toNat : Int) := by
 have h : (2 : Nat) ^ (8 * e) = 256 ^ e := by rw [Nat.pow_mul]
 have h2 : ((2 : Int) ^ (8 * e)) = ((256 ^ e : Nat) : Int) := by rw [← h]; simp
 rw [h2]
 simp only [UInt8.toNat_ofNat']
 omega
theorem put_any (wd m c cc : Nat) (ad : Addr) (ns : List Nat) (w : World) (hwd : wd ≤ 8) (hm : ns.length = m) (hm3 : m ≤ 3) (hc : wd * m = c)
  (hcell : ∀ (j n : Nat), ns[j]? = some n → w.cell? (ad.add j) = some (.int .u64 (n : Int))) (hlt : ∀ n ∈ ns, n < 18446744073709551616) :
  Calls Tryz.prog 100 #[.int .i64 (wd : Int), .slice (some ad) m cc] w fun e w' => e = .returned (.string ⟨(putL wd ns).toArray⟩) ∧ Below w.heap.size w w' := by
 obtain ⟨i0, hi, hz0, hz1, hz2⟩ := info_parts info5
 have hmul : (wd : Int) * (m : Int) = (c : Int) := by rw [← hc]; simp
 have hc24 : c ≤ 24 := by have := Nat.mul_le_mul hwd hm3; omega
 have HC : Hid (wd * m = c) := hc
 have HM : Hid (ns.length = m) := hm
 have HL := (show Hid (∀ n ∈ ns, n < 18446744073709551616) from hlt)
 have HN := (show Hid (∀ (j n : Nat), ns[j]? = some n → w.cell? (ad.add j) = some (.int .u64 (n : Int))) from hcell)
 clear hc hm hlt hcell
 go_enter Tryz.func100, Tryz.ntmps100
 go_wp2_with (first
  | (at_make; refine wpList_make_own _ rfl _ _ 54 rfl w.heap.size 5 i0 (.int .u8 0) 1 Tryz.underlying54 hi hz0 hz1 .i64 .i64 _ c rfl rfl (by first | rfl | omega) (by rw [hz2]; omega) (by unfold maxLen; omega) (Nat.le_refl _) ?_; intro w0 hown0 hgrow0))
 clear hmul
 go_loopw [5, 16] (fun v i wr => ∃ j : Nat, j ≤ m ∧ i = .int .i64 (j : Int) ∧ v = .slice (some ⟨w.heap.size, 0, none⟩) (wd * j) c ∧ wr.ownsRow w.heap.size 5 1 v (wd * j) (bv (putL wd (ns.take j))) ∧ Below w.heap.size w wr)
  (fun _ i _ => m - (intOf i).toNat)
 case atStart => exact ⟨0, by omega, rfl, by simp, by simpa [putL, bv] using hown0, (Below.refl _ _).grown hgrow0 (Nat.le_refl _) (fun k h => by cases h)⟩
 case round =>
  obtain ⟨j, hj, rfl, rfl, hown, hb⟩ := hrel
  by_cases hlt : j < m
  ·obtain ⟨n, hn⟩ : ∃ n, ns[j]? = some n := ⟨_, List.getElem?_eq_getElem (by have := HM.out; omega)⟩
   have hcj : wr.cell? (ad.add j) = some (.int .u64 (n : Int)) := by
    have h0 := HN.out j n hn
    rw [hb.cell (World.block_lt_of_cell? w _ h0)]
    exact h0
   have hn64 : n < 18446744073709551616 := HL.out n (List.mem_of_getElem? hn)
   have hroom : wd * j + wd ≤ c := by rw [← HC.out, ← Nat.mul_succ]; exact Nat.mul_le_mul_left _ hlt
   have HNJ := (show Hid (ns[j]? = some n) from hn)
   clear hn
   go_wp2_with fail
   go_loopw [5, 8] (fun v l wq => ∃ k : Nat, k ≤ wd ∧ l = .int .i64 ((wd : Int) - 1 - k) ∧ v = .slice (some ⟨w.heap.size, 0, none⟩) (wd * j + k) c ∧ wq.ownsRow w.heap.size 5 1 v (wd * j + k) (bv (putL wd (ns.take j) ++ digs n wd k)) ∧ Below w.heap.size w wq)
    (fun _ l _ => (intOf l + 1).toNat)
   case atStart => exact ⟨0, by omega, by simp, by simp, by simpa [digs] using hown, hb⟩
   case round =>
    obtain ⟨k, hk, rfl, rfl, hownk, hbk⟩ := hrel
    by_cases hkt : k < wd
    ·have hsz := hbk.size
     go_wp2_with (at_builtin; refine wpList_append_own_spare _ rfl (.tmp 26) (.tmp 32) 54 rfl w.heap.size 5 i0 1 Tryz.underlying54 hi hz1 w.heap.size (wd * j + k) c _ rfl (hownk.alloc _) ⟨wr.heap.size, 0, none⟩ 1 1 [.int .u8 ((n : Int) / 2 ^ (8 * (wd - 1 - k)) % 256)] rfl rfl (cell_one_new _ _ _) (by intro u hu; simp at hu; subst hu; rfl) (by omega) ?_; intro w1 hown1 hgrow1)
     go_roundw
     case rel =>
      exact ⟨k + 1, by omega, by go_num, rfl, by rw [digs_succ, ← List.append_assoc, bv_snoc, ← byteOf]; exact hown1, (hbk.alloc (by omega) _).grown hgrow1 (by simp; omega) (fun q hq => by cases hq; exact Nat.le_refl _)⟩
     case measure => simp [intOf]; omega
    ·have hke : k = wd := by omega
     subst hke
     go_wp2_with fail
     go_roundw
     case rel =>
      exact ⟨j + 1, by omega, by go_num, by rw [Nat.mul_succ], by rw [putL_take _ _ _ _ HNJ.out, Nat.mul_succ]; exact hownk, hbk⟩
     case measure => simp [intOf]; omega
  ·have hje : j = m := by omega
   subst hje
   have hs := run_str wr w.heap.size (wd * j) c w.heap.size _ hown
   go_wp2_with fail
   go_ret
   exact ⟨by rw [List.take_of_length_le (by have := HM.out; omega)]; rfl, hb⟩
def num (l : List UInt8) : Nat := l.foldl (fun a b => a * 256 + b.toNat) 0
theorem num_snoc (l : List UInt8) (b : UInt8) : num (l ++ [b]) = num l * 256 + b.toNat := by simp [num]
theorem take_snoc (s : ByteArray) (k : Nat) (h : k < s.size) : s.data.toList.take (k + 1) = s.data.toList.take k ++ [s[k]] := by
 rw [List.take_succ_eq_append_getElem (by simpa using h)]; rfl
theorem num_take (s : ByteArray) (k : Nat) (h : k < s.size) : num (s.data.toList.take (k + 1)) = num (s.data.toList.take k) * 256 + s[k].toNat := by
 rw [take_snoc s k h, num_snoc]
theorem num_lt (s : ByteArray) (k : Nat) (h : k ≤ s.size) : num (s.data.toList.take k) < 256 ^ k := by
 induction k with
 | zero => simp [num]
 | succ k ih =>
  rw [num_take s k (by omega), Nat.pow_succ]
  have := ih (by omega)
  have := (s[k]).toNat_lt
  omega
theorem wrapu64 (n : Int) (h₀ : 0 ≤ n) (h₁ : n < 18446744073709551616) : IntKind.u64.wrap n = n := by rw [IntKind.wrap_u64]; omega
theorem or_byte (a b : Nat) (ha : a < 72057594037927936) (hb : b < 256) : bits .or .u64 ((a : Int) * 256) (IntKind.u64.wrap (b : Int)) = ((a * 256 + b : Nat) : Int) := by
 rw [wrapu64 _ (by omega) (by omega)]
 have h := bits_join .u64 64 (by decide) (fun n h₀ h₁ => wrapu64 n h₀ (by simpa using h₁)) 8 (x := (a : Int) * 256) (y := (b : Int)) (by omega) (by simp) (by simp; omega) (by omega) (by simp; omega) (by simp; omega)
 rw [h]; simp
theorem number_any (s : ByteArray) (w : World) (hs : s.size ≤ 8) :
  Calls Tryz.prog 76 #[.string s] w fun e w' => e = .returned (.int .u64 (num s.data.toList : Int)) ∧ w' = w := by
 go_enter Tryz.func76, Tryz.ntmps76
 go_wp2
 go_loop [3, 7] (fun n i => ∃ k : Nat, k ≤ s.size ∧ i = .int .i64 k ∧ n = .int .u64 (num (s.data.toList.take k) : Int)) (fun _ i => s.size - (intOf i).toNat)
 case atStart => exact ⟨0, Nat.zero_le _, rfl, rfl⟩
 case round =>
  obtain ⟨k, hk, rfl, rfl⟩ := hrel
  by_cases hlt : k < s.size
  ·have hb := num_lt s k hk
   have h7 : 256 ^ k ≤ 256 ^ 7 := Nat.pow_le_pow_right (by omega) (by omega)
   have hb7 : num (s.data.toList.take k) < 72057594037927936 := by simp at h7; omega
   clear hb h7
   go_wp2
   refine ⟨⟨k + 1, by omega, by go_num, ?_⟩, by simp [intOf]; omega⟩
   rw [num_take s k hlt, or_byte _ _ hb7 (s[k]).toNat_lt]
  ·go_wp2
   go_ret
   exact ⟨by rw [List.take_of_length_le (by simp; omega)]; rfl, rfl⟩
def S (l : List UInt8) : Value := .string ⟨l.toArray⟩
theorem number_l (l : List UInt8) (w : World) (hs : l.length ≤ 8) :
  Calls Tryz.prog 76 #[S l] w fun e w' => e = .returned (.int .u64 (num l : Int)) ∧ w' = w := by
 have h := number_any ⟨l.toArray⟩ w (by simpa [ByteArray.size] using hs)
 simpa [S] using h
structure Kp (S : Nat → Prop) (w w' : World) : Prop where
 os : w'.os = w.os
 tape : w'.tape = w.tape
 output : w'.output = w.output
 size : w.heap.size ≤ w'.heap.size
 block : ∀ k, k < w.heap.size → ¬ S k → w'.heap[k]? = w.heap[k]?
theorem Kp.refl (S : Nat → Prop) (w : World) : Kp S w w := ⟨rfl, rfl, rfl, Nat.le_refl _, fun _ _ _ => rfl⟩
theorem Kp.trans {S : Nat → Prop} {a b c : World} (h : Kp S a b) (k : Kp S b c) : Kp S a c :=
 ⟨k.os.trans h.os, k.tape.trans h.tape, k.output.trans h.output, Nat.le_trans h.size k.size, fun i hi hs => (k.block i (Nat.lt_of_lt_of_le hi h.size) hs).trans (h.block i hi hs)⟩
theorem Kp.next {S T : Nat → Prop} {a b c : World} (h : Kp S a b) (k : Kp T b c) (hT : ∀ i, i < a.heap.size → T i → S i) : Kp S a c :=
 ⟨k.os.trans h.os, k.tape.trans h.tape, k.output.trans h.output, Nat.le_trans h.size k.size, fun i hi hs => (k.block i (Nat.lt_of_lt_of_le hi h.size) (fun ht => hs (hT i hi ht))).trans (h.block i hi hs)⟩
theorem Kp.mono {S T : Nat → Prop} {a b : World} (h : Kp S a b) (hst : ∀ k, k < a.heap.size → S k → T k) : Kp T a b :=
 ⟨h.os, h.tape, h.output, h.size, fun k hk ht => h.block k hk (fun hs => ht (hst k hk hs))⟩
theorem Kp.alloc {S : Nat → Prop} {a w : World} (h : Kp S a w) (o : Obj) : Kp S a (w.alloc o) :=
 h.trans ⟨rfl, rfl, rfl, by simp, fun k hk _ => Below.heap_alloc _ _ _ hk⟩
theorem Kp.setCell {S : Nat → Prop} {a w : World} (h : Kp S a w) {p : Addr} (hp : S p.block ∨ a.heap.size ≤ p.block) (u : Value) : Kp S a (w.setCell p u) :=
 ⟨h.os, h.tape, h.output, by simpa [World.setCell] using h.size, fun k hk hs => by
  rw [Below.heap_setCell _ _ _ _ (fun e => by subst e; rcases hp with hp | hp; exact hs hp; omega)]
  exact h.block k hk hs⟩
theorem Kp.drew {S : Nat → Prop} {a w : World} (h : Kp S a w) : Kp S a w.drew := ⟨h.os, h.tape, h.output, h.size, h.block⟩
theorem Kp.ofBelow {S : Nat → Prop} {a w : World} (h : Below a.heap.size a w) : Kp S a w := ⟨h.os, h.tape, h.output, h.size, fun k hk _ => h.block k hk⟩
theorem Kp.below {S : Nat → Prop} {a w : World} (h : Kp S a w) {B : Nat} (hB : B ≤ a.heap.size) (hS : ∀ k, k < B → ¬ S k) : Below B a w :=
 ⟨h.os, h.tape, h.output, h.size, fun k hk => h.block k (Nat.lt_of_lt_of_le hk hB) (hS k hk)⟩
theorem Kp.cell {S : Nat → Prop} {a w : World} (h : Kp S a w) {p : Addr} (hp : p.block < a.heap.size) (hs : ¬ S p.block) : w.cell? p = a.cell? p := World.cell?_of_block (w := a) (h.block p.block hp hs)
theorem Kp.frozen {S : Nat → Prop} {a w : World} (h : Kp S a w) {p : Addr} (hp : p.block < a.heap.size) (hs : ¬ S p.block) : w.frozen? p = a.frozen? p := World.frozen?_of_block (w := a) (h.block p.block hp hs)
def SG : List UInt8 := [48, 49, 50, 51, 52, 53, 54, 55, 56, 57, 65, 66, 67, 68, 69, 70, 71, 72, 74, 75, 76, 77, 78, 80, 81, 82, 83, 84, 85, 86, 87]
def vi (b : UInt8) : Int := Lib.indexByte SG b
def vof (b : UInt8) : Option Nat := if vi b < 0 then none else some (vi b).toNat
def sgn (v : Nat) : UInt8 := SG.getD v 0
theorem vi_all : ∀ n : Fin 256, (vi (UInt8.ofNat n.val) = -1 ∧ ∀ v : Fin 31, sgn v.val ≠ UInt8.ofNat n.val) ∨ (0 ≤ vi (UInt8.ofNat n.val) ∧ vi (UInt8.ofNat n.val) < 31 ∧ sgn (vi (UInt8.ofNat n.val)).toNat = UInt8.ofNat n.val) := by decide +kernel
theorem vof_sgn_all : ∀ v : Fin 31, vi (sgn v.val) = (v.val : Int) := by decide +kernel
theorem byte_cases (b : UInt8) : b = UInt8.ofNat (⟨b.toNat, b.toNat_lt⟩ : Fin 256).val := by
 apply UInt8.toNat_inj.1; simp
theorem vof_some {b : UInt8} {v : Nat} : vof b = some v ↔ vi b = (v : Int) := by
 unfold vof
 by_cases hv : vi b < 0
 ·rw [if_pos hv]; simp; omega
 ·rw [if_neg hv]; simp; omega
theorem vof_lt {b : UInt8} {v : Nat} (h : vof b = some v) : v < 31 ∧ sgn v = b := by
 have hv := vof_some.1 h
 have g := vi_all ⟨b.toNat, b.toNat_lt⟩
 rw [← byte_cases b] at g
 rcases g with ⟨g, _⟩ | ⟨g0, g1, g2⟩
 ·omega
 ·rw [hv] at g1 g2; exact ⟨by omega, by simpa using g2⟩
theorem vof_sgn {v : Nat} (h : v < 31) : vof (sgn v) = some v := vof_some.2 (vof_sgn_all ⟨v, h⟩)
theorem info3c : (Tryz.prog.info? 3).map (fun i => (i.zero, i.size, i.bytes)) = some (some (.int .i64 0), 1, 8) := by kernel_rfl
def zT : List UInt8 → Option (List Nat)
 | [] => some []
 | b :: l => match vof b, zT l with
  | some v, some vs => some (v :: vs)
  | _, _ => none
theorem xB {b : UInt8} {l : List UInt8} {r : List Nat} : zT (b :: l) = some r ↔ ∃ v vs, vof b = some v ∧ zT l = some vs ∧ r = v :: vs := by
 constructor
 ·intro h
  unfold zT at h
  cases h1 : vof b with
  | none => simp [h1] at h
  | some v =>
   cases h2 : zT l with
   | none => simp [h1, h2] at h
   | some vs => simp [h1, h2] at h; exact ⟨v, vs, rfl, rfl, h.symm⟩
 ·rintro ⟨v, vs, h1, h2, rfl⟩
  simp [zT, h1, h2]
theorem vals_len {l : List UInt8} {vs : List Nat} (h : zT l = some vs) : vs.length = l.length := by
 induction l generalizing vs with
 | nil => simp [zT] at h; subst h; rfl
 | cons a l ih =>
  obtain ⟨u, us, h1, h2, rfl⟩ := xB.1 h
  simp [ih h2]
theorem vals_lt {l : List UInt8} {vs : List Nat} (h : zT l = some vs) : ∀ v ∈ vs, v < 31 := by
 induction l generalizing vs with
 | nil => simp [zT] at h; subst h; simp
 | cons a l ih =>
  obtain ⟨u, us, h1, h2, rfl⟩ := xB.1 h
  intro v hv
  rcases List.mem_cons.1 hv with rfl | hv
  ·exact (vof_lt h1).1
  ·exact ih h2 v hv
theorem vals_sgn {vs : List Nat} (h : ∀ v ∈ vs, v < 31) : zT (vs.map sgn) = some vs := by
 induction vs with
 | nil => rfl
 | cons v vs ih =>
  exact xB.2 ⟨v, vs, vof_sgn (h v (by simp)), ih (fun u hu => h u (by simp [hu])), rfl⟩
def iv (l : List Nat) : List Value := l.map fun n => Value.int .i64 ((n : Nat) : Int)
def wsp (l : List Nat) : Nat × Nat := l.foldl (fun p v => (p.1 + v * (p.2 + 2), p.2 + 1)) (0, 0)
def ws (l : List Nat) : Nat := (wsp l).1
theorem wsp_snd (l : List Nat) : (wsp l).2 = l.length := by
 have h : ∀ (l : List Nat) (p : Nat × Nat), (l.foldl (fun p v => (p.1 + v * (p.2 + 2), p.2 + 1)) p).2 = p.2 + l.length := by
  intro l
  induction l with
  | nil => intro p; simp
  | cons a l ih => intro p; rw [List.foldl_cons, ih]; simp; omega
 simp [wsp, h]
theorem ws_snoc (l : List Nat) (v : Nat) : ws (l ++ [v]) = ws l + v * (l.length + 2) := by
 have h := wsp_snd l
 simp only [ws, wsp, List.foldl_append, List.foldl_cons, List.foldl_nil] at h ⊢
 rw [h]
def mk (l : List Nat) : Nat := (31 - ws l % 31) % 31
theorem ws_le (l : List Nat) (h : ∀ v ∈ l, v < 31) (k : Nat) (hk : k ≤ 20) (hl : k ≤ l.length) : ws (l.take k) ≤ k * 660 := by
 induction k with
 | zero => simp [ws, wsp]
 | succ k ih =>
  have hlt : k < l.length := by omega
  rw [List.take_succ_eq_append_getElem hlt, ws_snoc]
  have h1 := ih (by omega) (by omega)
  have h2 := h l[k] (List.getElem_mem _)
  have h3 : (l.take k).length = k := by simp; omega
  rw [h3]
  have h4 : l[k] * (k + 2) ≤ 30 * 22 := Nat.mul_le_mul (by omega) (by omega)
  omega
theorem ret_int {k : IntKind} {a b : Int} (h : a = b) : Ending.returned (.int k a) = .returned (.int k b) := by rw [h]
theorem check37 (a : Addr) (n c : Nat) (vs : List Nat) (w : World) (hn : vs.length = n) (hn20 : n ≤ 20) (hlt : ∀ v ∈ vs, v < 31)
  (hcell : ∀ (j : Nat) (v : Nat), vs[j]? = some v → w.cell? (a.add j) = some (.int .i64 (v : Int))) :
  Calls Tryz.prog 78 #[.slice (some a) n c] w fun e w' => e = .returned (.int .i64 (mk vs : Int)) ∧ w' = w := by
 have HN := zA hn
 have HL := zA hlt
 have HCE := zA hcell
 clear hn hlt hcell
 go_enter Tryz.func78, Tryz.ntmps78
 go_wp2
 go_loop [3, 8] (fun t i => ∃ k : Nat, k ≤ n ∧ i = .int .i64 k ∧ t = .int .i64 (ws (vs.take k) : Int)) (fun _ i => n - (intOf i).toNat)
 case atStart => exact ⟨0, Nat.zero_le _, rfl, rfl⟩
 case round =>
  obtain ⟨k, hk, rfl, rfl⟩ := hrel
  have hb := ws_le vs HL.out k (by omega) (by have := HN.out; omega)
  have hb' : ws (vs.take k) ≤ 13200 := by omega
  clear hb
  by_cases hkn : k < n
  ·have hkl : k < vs.length := by have := HN.out; omega
   have hc := HCE.out k vs[k] (List.getElem?_eq_getElem hkl)
   have hv := HL.out vs[k] (List.getElem_mem _)
   have hws : ws (vs.take (k + 1)) = ws (vs.take k) + vs[k] * (k + 2) := by
    rw [List.take_succ_eq_append_getElem hkl, ws_snoc, show (vs.take k).length = k by simp; omega]
   generalize hx : vs[k] = x at *
   generalize hy : ws (vs.take k) = y at *
   have h4 : x * (k + 2) ≤ 30 * 22 := Nat.mul_le_mul (by omega) (by omega)
   generalize hp : x * (k + 2) = p at *
   have hmul : (x : Int) * ((k : Int) + 2) = (p : Int) := by rw [← hp]; simp
   have HW := zA hws
   have HX := zA hx
   have HY := zA hy
   have HP := zA hp
   clear hws hx hy hp
   go_wp2
   refine ⟨⟨k + 1, by omega, by go_num, ?_⟩, by simp [intOf]; omega⟩
   rw [HW.out]
   go_num
  ·have hke : k = n := by omega
   generalize hy : ws (vs.take k) = y at *
   have HY := zA hy
   clear hy
   go_wp2
   go_ret
   refine ⟨?_, rfl⟩
   rw [List.take_of_length_le (by have := HN.out; omega)] at HY
   rw [show mk vs = (31 - y % 31) % 31 by unfold mk; rw [HY.out]]
   exact ret_int (by omega)
theorem sg_get : ∀ v : Fin 31, (⟨#[48, 49, 50, 51, 52, 53, 54, 55, 56, 57, 65, 66, 67, 68, 69, 70, 71, 72, 74, 75, 76, 77, 78, 80, 81, 82, 83, 84, 85, 86, 87]⟩ : ByteArray)[v.val]'(v.isLt) = sgn v.val := by decide +kernel
theorem put36 (a : Addr) (n c : Nat) (vs : List Nat) (w : World) (hn : vs.length = n) (hn20 : n ≤ 20) (hlt : ∀ v ∈ vs, v < 31)
  (hcell : ∀ (j : Nat) (v : Nat), vs[j]? = some v → w.cell? (a.add j) = some (.int .i64 (v : Int))) :
  Calls Tryz.prog 77 #[.slice (some a) n c] w fun e w' => e = .returned (S (vs.map sgn)) ∧ Below w.heap.size w w' := by
 obtain ⟨i0, hi, hz0, hz1, hz2⟩ := info_parts info5
 have HN := zA hn
 have HL := zA hlt
 have HCE := zA hcell
 clear hn hlt hcell
 go_enter Tryz.func77, Tryz.ntmps77
 go_wp2_with (first
  | (at_make; refine wpList_make_own _ rfl _ _ 54 rfl w.heap.size 5 i0 (.int .u8 0) 1 Tryz.underlying54 hi hz0 hz1 .i64 .i64 _ n rfl rfl (by first | rfl | omega) (by rw [hz2]; omega) (by unfold maxLen; omega) (Nat.le_refl _) ?_; intro w0 hown0 hgrow0))
 go_loopw [3, 11] (fun v i wr => ∃ k : Nat, k ≤ n ∧ i = .int .i64 (k : Int) ∧ v = .slice (some ⟨w.heap.size, 0, none⟩) k n ∧ wr.ownsRow w.heap.size 5 1 v k (bv ((vs.take k).map sgn)) ∧ Below w.heap.size w wr)
  (fun _ i _ => n - (intOf i).toNat)
 case atStart => exact ⟨0, by omega, rfl, rfl, by simpa [bv] using hown0, (Below.refl _ _).grown hgrow0 (Nat.le_refl _) (fun k h => by cases h)⟩
 case round =>
  obtain ⟨k, hk, rfl, rfl, hown, hb⟩ := hrel
  by_cases hlt : k < n
  ·have hsz := hb.size
   have hkl : k < vs.length := by have := HN.out; omega
   have h0 := HCE.out k vs[k] (List.getElem?_eq_getElem hkl)
   have hc : wr.cell? (a.add k) = some (.int .i64 ((vs[k] : Nat) : Int)) := by
    rw [hb.cell (World.block_lt_of_cell? w _ h0)]; exact h0
   clear h0
   have hv := HL.out vs[k] (List.getElem_mem _)
   generalize hx : vs[k] = x at *
   have HX := zA hx
   clear hx
   have hidx : ∀ h, (⟨#[48, 49, 50, 51, 52, 53, 54, 55, 56, 57, 65, 66, 67, 68, 69, 70, 71, 72, 74, 75, 76, 77, 78, 80, 81, 82, 83, 84, 85, 86, 87]⟩ : ByteArray)[x]'h = sgn x := fun h => sg_get ⟨x, hv⟩
   have hvI : (x : Int) < 31 := by omega
   go_wp2_with (at_builtin; refine wpList_append_own_spare _ rfl (.tmp 15) (.tmp 18) 54 rfl w.heap.size 5 i0 1 Tryz.underlying54 hi hz1 w.heap.size k n _ rfl (hown.alloc _) ⟨wr.heap.size, 0, none⟩ 1 1 [.int .u8 ((sgn x).toNat : Int)] rfl rfl (cell_one_new _ _ _) (by intro u hu; simp at hu; subst hu; rfl) (by omega) ?_; intro w2 hown2 hgrow2)
   go_roundw
   case rel =>
    exact ⟨k + 1, by omega, by go_num, rfl, by rw [List.take_succ_eq_append_getElem hkl, List.map_append, List.map_singleton, bv_snoc, HX.out]; exact hown2, (hb.alloc (by omega) _).grown hgrow2 (by simp; omega) (fun q hq => by cases hq; exact Nat.le_refl _)⟩
   case measure => simp [intOf]; omega
  ·have hke : k = n := by omega
   subst hke
   have hs := run_str wr w.heap.size k k w.heap.size _ hown
   go_wp2_with fail
   go_ret
   refine ⟨?_, hb⟩
   rw [List.take_of_length_le (by rw [List.length_map]; have := HN.out; omega)]; rfl
end
end Go.Proofs.YtdcojigjcebcpaaGreatDoor
