/-
  Texts joined: T1, T12, R1, R2, P1, R3, P2, P3, R4, P4, R5, O1, R6, L1, L2, L3, K1, O3, G0, N1, N3, N4, K2, K3, K4, H1, N5, N6, J1, J2, J3, J4.
-/
import Derived.Test.YtgidebfgcbkkkaaGreatRows
import Derived.WalkKit
import Derived.ProofKit
import Derived.OpenShut
import Derived.Carry
import Derived.Deep.Slices
import Derived.OwnWalk
import Derived.Laws.AppendOwnNone
import Derived.Lib.SliceRun
import Derived.Lib.AppendZeros
import Derived.OrdersHeld
import Derived.Lib.QuietBelow
set_option maxHeartbeats 12800000
set_option maxRecDepth 100000
namespace Go.Proofs.YtgidebfgcbkkkaaGreat
section
open Go.RowKit
theorem zA {p : Prop} (h : p) : Hid p := h
def wi (n a b : Int) : Bool := decide (a ≤ n) && decide (n ≤ b)
theorem yO (n a b : Int) : wi n a b = true ↔ (a ≤ n ∧ n ≤ b) := by simp [wi]
theorem yD (n a b : Int) (w : World) :
  Calls Tryz.prog 70 #[.int .i64 n, .int .i64 a, .int .i64 b] w fun e w' => e = .returned (.bool (wi n a b)) ∧ w' = w := by
 by_cases h1 : a ≤ n
 ·go_enter Tryz.func70, Tryz.ntmps70
  go_wp2
  all_goals go_ret
  all_goals exact ⟨by simp [wi, *], rfl⟩
 ·go_enter Tryz.func70, Tryz.ntmps70
  go_wp2
  all_goals go_ret
  all_goals exact ⟨by simp [wi, *]; try omega, rfl⟩
theorem qS (n : Int) (w : World) :
  Calls Tryz.prog 139 #[.int .i64 n] w fun e w' => e = .returned (.bool (wi n 0 9999)) ∧ w' = w := by
 go_enter Tryz.func139, Tryz.ntmps139
 go_wp2_with fail
 refine (yD _ _ _ _).mono ?_
 rintro e w1 ⟨rfl, rfl⟩
 go_wp2_with fail
 go_ret
 exact ⟨rfl, rfl⟩
abbrev tk (i k f t z r : Int) : Value := .agg #[.int .i64 i, .int .i64 k, .int .i64 f, .int .i64 t, .int .i64 z, .int .i64 r]
def inR (i f t z : Int) : Bool := wi i 1 9999 && wi f 0 9999 && wi t 0 9999 && wi z 1 15
def ridesF (k r : Int) : Bool := if k = 3 then wi r 2 9 else decide (r = 0)
theorem inRange_any (i k f t z r : Int) (w : World) :
  Calls Tryz.prog 155 #[tk i k f t z r] w fun e w' => e = .returned (.bool (inR i f t z)) ∧ Below w.heap.size w w' := by
 cases h1 : wi i 1 9999 <;> cases h2 : wi f 0 9999 <;> cases h3 : wi t 0 9999
 all_goals
  go_enter Tryz.func155, Tryz.ntmps155
  go_wp2_with first | (go_at_call 70; refine (yD _ _ _ _).mono ?_; rintro e w' ⟨rfl, rfl⟩) | (go_at_call 139; refine (qS _ _).mono ?_; rintro e w' ⟨rfl, rfl⟩)
  go_ret
  exact ⟨by simp [inR, *], (Below.refl _ _).alloc (Nat.le_refl _) _⟩
theorem ridesFit_any (i k f t z r : Int) (w : World) :
  Calls Tryz.prog 156 #[tk i k f t z r] w fun e w' => e = .returned (.bool (ridesF k r)) ∧ Below w.heap.size w w' := by
 by_cases h1 : k = 3
 ·have h1' : (k == 3) = true := by simpa using h1
  have H := (show Hid (k = 3) from h1)
  clear h1
  go_enter Tryz.func156, Tryz.ntmps156
  go_wp2_with (go_at_call 70; refine (yD _ _ _ _).mono ?_; rintro e w' ⟨rfl, rfl⟩)
  go_ret
  exact ⟨by simp [ridesF, H.out], (Below.refl _ _).alloc (Nat.le_refl _) _⟩
 ·have h1' : (k == 3) = false := by simpa using h1
  go_enter Tryz.func156, Tryz.ntmps156
  go_wp2_with (go_at_call 70; refine (yD _ _ _ _).mono ?_; rintro e w' ⟨rfl, rfl⟩)
  go_ret
  exact ⟨by simp [ridesF, h1]; try rfl, (Below.refl _ _).alloc (Nat.le_refl _) _⟩
def chk (i k f t z r : Int) : Int :=
 if inR i f t z = false then 3 else if wi k 1 3 = false then 7 else if t < f then 4 else if ridesF k r = false then 1 else 0
theorem bcell {W w1 : World} (hb : Below W.heap.size W w1) : (∀ b o, b < W.heap.size → w1.cell? ⟨b, o, none⟩ = W.cell? ⟨b, o, none⟩) ∧ (∀ b o, b < W.heap.size → w1.frozen? ⟨b, o, none⟩ = W.frozen? ⟨b, o, none⟩) :=
 ⟨fun b o h => hb.cell (p := ⟨b, o, none⟩) h, fun b o h => hb.frozen (p := ⟨b, o, none⟩) h⟩
theorem check_any (i k f t z r : Int) (w : World) :
  Calls Tryz.prog 125 #[tk i k f t z r] w fun e w' => e = .returned (.int .i64 (chk i k f t z r)) ∧ Below w.heap.size w w' := by
 cases h1 : inR i f t z
 ·go_enter Tryz.func125, Tryz.ntmps125
  go_wp2_with fail
  refine (inRange_any _ _ _ _ _ _ _).mono ?_
  rintro e w1 ⟨rfl, hb⟩
  obtain ⟨hc, hf⟩ := bcell hb
  go_wp2_with fail
  go_ret
  exact ⟨by simp [chk, h1], ((Below.refl _ _).alloc (Nat.le_refl _) _).trans (hb.mono (by simp))⟩
 ·cases h2 : wi k 1 3
  ·go_enter Tryz.func125, Tryz.ntmps125
   go_wp2_with fail
   refine (inRange_any _ _ _ _ _ _ _).mono ?_
   rintro e w1 ⟨rfl, hb⟩
   obtain ⟨hc, hf⟩ := bcell hb
   go_wp2_with fail
   refine (yD _ _ _ _).mono ?_
   rintro e w2 ⟨rfl, rfl⟩
   go_wp2_with fail
   go_ret
   exact ⟨by simp [chk, h1, h2], ((Below.refl _ _).alloc (Nat.le_refl _) _).trans (hb.mono (by simp))⟩
  ·by_cases h3 : t < f
   ·go_enter Tryz.func125, Tryz.ntmps125
    go_wp2_with fail
    refine (inRange_any _ _ _ _ _ _ _).mono ?_
    rintro e w1 ⟨rfl, hb⟩
    obtain ⟨hc, hf⟩ := bcell hb
    go_wp2_with fail
    refine (yD _ _ _ _).mono ?_
    rintro e w2 ⟨rfl, rfl⟩
    go_wp2_with fail
    go_ret
    exact ⟨by simp [chk, h1, h2, h3], ((Below.refl _ _).alloc (Nat.le_refl _) _).trans (hb.mono (by simp))⟩
   ·cases h4 : ridesF k r
    all_goals
     go_enter Tryz.func125, Tryz.ntmps125
     go_wp2_with fail
     refine (inRange_any _ _ _ _ _ _ _).mono ?_
     rintro e w1 ⟨rfl, hb⟩
     obtain ⟨hc, hf⟩ := bcell hb
     go_wp2_with fail
     refine (yD _ _ _ _).mono ?_
     rintro e w2 ⟨rfl, rfl⟩
     go_wp2_with fail
     refine (ridesFit_any _ _ _ _ _ _ _).mono ?_
     rintro e w3 ⟨rfl, hb2⟩
     go_wp2_with fail
     go_ret
     exact ⟨by simp [chk, h1, h2, h3, h4], (((Below.refl _ _).alloc (Nat.le_refl _) _).trans (hb.mono (by simp))).trans (hb2.mono (by have := hb.size; simp at this; omega))⟩
abbrev tp (a g s m z : Int) : Value := .agg #[.int .i64 a, .int .i64 g, .int .i64 s, .int .i64 m, .int .i64 z]
def isZ (n : Int) : Bool := n == 1 || n == 2 || n == 4 || n == 8
def vB (a g s m z : Int) : Int :=
 if (wi a 1 9999 && wi g 0 2 && wi s 1 99 && wi m 0 9999) = false then 3 else if isZ z = false then 9 else 0
def place (f t z m zone : Int) : Int := if wi m f t = false then 8 else if z / zone % 2 = 0 then 9 else 0
def judge (k f t z r last rides m zone : Int) : Int × Int :=
 if place f t z m zone ≠ 0 then (3, place f t z m zone)
 else if 0 ≤ last ∧ last ≤ m ∧ m < last + 60 then (2, 0)
 else if (k = 1 ∧ 0 < rides) ∨ (k = 3 ∧ r ≤ rides) then (3, 10) else (1, 0)
theorem oneZone_any (n : Int) (w : World) :
  Calls Tryz.prog 161 #[.int .i64 n] w fun e w' => e = .returned (.bool (isZ n)) ∧ w' = w := by
 cases h1 : (n == 1) <;> cases h2 : (n == 2) <;> cases h3 : (n == 4) <;> cases h4 : (n == 8)
 all_goals
  go_enter Tryz.func161, Tryz.ntmps161
  go_wp2
  go_ret
  exact ⟨by simp [isZ, *], rfl⟩
def inP (a g s m : Int) : Bool := wi a 1 9999 && wi g 0 2 && wi s 1 99 && wi m 0 9999
theorem inRangeP_any (a g s m z : Int) (w : World) :
  Calls Tryz.prog 189 #[tp a g s m z] w fun e w' => e = .returned (.bool (inP a g s m)) ∧ Below w.heap.size w w' := by
 cases h1 : wi a 1 9999 <;> cases h2 : wi g 0 2 <;> cases h3 : wi s 1 99
 all_goals
  go_enter Tryz.func189, Tryz.ntmps189
  go_wp2_with first | (go_at_call 70; refine (yD _ _ _ _).mono ?_; rintro e w' ⟨rfl, rfl⟩) | (go_at_call 139; refine (qS _ _).mono ?_; rintro e w' ⟨rfl, rfl⟩)
  go_ret
  exact ⟨by simp [inP, *], (Below.refl _ _).alloc (Nat.le_refl _) _⟩
theorem checkP_any (a g s m z : Int) (w : World) :
  Calls Tryz.prog 162 #[tp a g s m z] w fun e w' => e = .returned (.int .i64 (vB a g s m z)) ∧ Below w.heap.size w w' := by
 generalize hC : vB a g s m z = C
 have hc : (inP a g s m = false ∧ C = 3) ∨ (inP a g s m = true ∧ isZ z = false ∧ C = 9) ∨ (inP a g s m = true ∧ isZ z = true ∧ C = 0) := by
  rw [← hC]
  rw [vB, show (wi a 1 9999 && wi g 0 2 && wi s 1 99 && wi m 0 9999) = inP a g s m from rfl]
  cases inP a g s m <;> cases isZ z <;> simp
 clear hC
 rcases hc with ⟨h1, rfl⟩ | ⟨h1, h2, rfl⟩ | ⟨h1, h2, rfl⟩
 ·go_enter Tryz.func162, Tryz.ntmps162
  go_wp2_with fail
  refine (inRangeP_any _ _ _ _ _ _).mono ?_
  rintro e w1 ⟨rfl, hb⟩
  obtain ⟨hc, hf⟩ := bcell hb
  go_wp2_with fail
  go_ret
  exact ⟨rfl, ((Below.refl _ _).alloc (Nat.le_refl _) _).trans (hb.mono (by simp))⟩
 all_goals
  go_enter Tryz.func162, Tryz.ntmps162
  go_wp2_with fail
  refine (inRangeP_any _ _ _ _ _ _).mono ?_
  rintro e w1 ⟨rfl, hb⟩
  obtain ⟨hc, hf⟩ := bcell hb
  go_wp2_with fail
  refine (oneZone_any _ _).mono ?_
  rintro e w2 ⟨rfl, rfl⟩
  go_wp2_with fail
  go_ret
  exact ⟨rfl, ((Below.refl _ _).alloc (Nat.le_refl _) _).trans (hb.mono (by simp))⟩
def spent (k r rides : Int) : Bool := decide ((k = 1 ∧ 0 < rides) ∨ (k = 3 ∧ r ≤ rides))
theorem spent_any (i k f t z r rides : Int) (w : World) :
  Calls Tryz.prog 201 #[tk i k f t z r, .int .i64 rides] w fun e w' => e = .returned (.bool (spent k r rides)) ∧ Below w.heap.size w w' := by
 generalize hS : spent k r rides = S
 unfold spent at hS
 have hk : ((k == 1) = true ∧ S = decide (1 ≤ rides)) ∨ ((k == 1) = false ∧ (k == 3) = true ∧ S = decide (r ≤ rides)) ∨ ((k == 1) = false ∧ (k == 3) = false ∧ S = false) := by
  rw [← hS]
  by_cases k1 : k = 1
  ·subst k1; simp; omega
  ·by_cases k3 : k = 3
   ·subst k3; simp
   ·simp [k1, k3]
 clear hS
 rcases hk with ⟨k1, rfl⟩ | ⟨k1, k2, rfl⟩ | ⟨k1, k2, rfl⟩
 all_goals
  go_enter Tryz.func201, Tryz.ntmps201
  go_wp2_with fail
  go_ret
  exact ⟨rfl, (Below.refl _ _).alloc (Nat.le_refl _) _⟩
theorem and_zone (z zone : Int) (hz : 0 ≤ z) (hz2 : z ≤ 15) (hzone : isZ zone = true) : (bits BinOp.and IntKind.i64 z zone == 0) = decide (z / zone % 2 = 0) := by
 have hq : zone = 1 ∨ zone = 2 ∨ zone = 4 ∨ zone = 8 := by simpa [isZ, or_assoc] using hzone
 obtain ⟨n, rfl⟩ := Int.eq_ofNat_of_zero_le hz
 have hn : n < 16 := by omega
 have key : ∀ n : Fin 16, ∀ q ∈ [(1 : Int), 2, 4, 8], (bits BinOp.and IntKind.i64 (n.val : Int) q == 0) = decide (((n.val : Int)) / q % 2 = 0) := by decide +kernel
 exact key ⟨n, hn⟩ zone (by simpa using hq)
theorem shut_any (i k f t z r a g s m zone : Int) (w : World) (hz : 0 ≤ z) (hz2 : z ≤ 15) (hzone : isZ zone = true) :
  Calls Tryz.prog 199 #[tk i k f t z r, tp a g s m zone] w fun e w' => e = .returned (.int .i64 (place f t z m zone)) ∧ Below w.heap.size w w' := by
 have hand := and_zone z zone hz hz2 hzone
 generalize hC : place f t z m zone = C
 have hc : (wi m f t = false ∧ C = 8) ∨ (wi m f t = true ∧ (bits BinOp.and IntKind.i64 z zone == 0) = true ∧ C = 9) ∨ (wi m f t = true ∧ (bits BinOp.and IntKind.i64 z zone == 0) = false ∧ C = 0) := by
  rw [hand, ← hC]
  unfold place
  cases wi m f t <;> by_cases h : z / zone % 2 = 0 <;> simp [h]
 clear hC hand
 rcases hc with ⟨h1, rfl⟩ | ⟨h1, h2, rfl⟩ | ⟨h1, h2, rfl⟩
 all_goals
  go_enter Tryz.func199, Tryz.ntmps199
  go_wp2_with (go_at_call 70; refine (yD _ _ _ _).mono ?_; rintro e w' ⟨rfl, rfl⟩)
  go_ret
  exact ⟨rfl, ((Below.refl _ _).alloc (Nat.le_refl _) _).alloc (by simp) _⟩
structure TP where
 a : Int
 g : Int
 s : Int
 m : Int
 z : Int
structure jN (w : World) (b : Addr) (p : TP) : Prop where
 c0 : w.cell? b = some (.int .i64 p.a)
 c1 : w.cell? ⟨b.block, b.off + 1, none⟩ = some (.int .i64 p.g)
 c2 : w.cell? ⟨b.block, b.off + 2, none⟩ = some (.int .i64 p.s)
 c3 : w.cell? ⟨b.block, b.off + 3, none⟩ = some (.int .i64 p.m)
 c4 : w.cell? ⟨b.block, b.off + 4, none⟩ = some (.int .i64 p.z)
theorem jN.lt {w : World} {b : Addr} {p : TP} (h : jN w b p) : b.block < w.heap.size := World.block_lt_of_cell? w b h.c0
theorem jN.below {B : Nat} {w w' : World} {b : Addr} {p : TP} (h : jN w b p) (hb : Below B w w') (hlt : b.block < B) : jN w' b p :=
 ⟨by rw [hb.cell hlt]; exact h.c0, by rw [hb.cell (p := ⟨b.block, b.off + 1, none⟩) hlt]; exact h.c1, by rw [hb.cell (p := ⟨b.block, b.off + 2, none⟩) hlt]; exact h.c2,
  by rw [hb.cell (p := ⟨b.block, b.off + 3, none⟩) hlt]; exact h.c3, by rw [hb.cell (p := ⟨b.block, b.off + 4, none⟩) hlt]; exact h.c4⟩
def zI (w : World) (o : Option Addr) (L : List TP) : Prop := ∀ i p, L[i]? = some p → ∃ b, o = some b ∧ jN w (b.add (i * 5)) p
theorem zI.below {w w' : World} {o : Option Addr} {L : List TP} (h : zI w o L) (hb : Below w.heap.size w w') : zI w' o L :=
 fun i p hi => have ⟨b, e, h5⟩ := h i p hi; ⟨b, e, h5.below hb h5.lt⟩
def yK (p : TP) : Int := vB p.a p.g p.s p.m p.z
def misT (i : Int) (p : TP) : Int := if p.a = i then 0 else 4
def zG : List Int → Int
 | [] => 0
 | e :: l => if e = 0 then zG l else e
theorem firstE_snoc (l : List Int) (x : Int) : zG (l ++ [x]) = if zG l = 0 then x else zG l := by
 induction l with
 | nil => by_cases h : x = 0 <;> simp [zG, h]
 | cons e l ih =>
  by_cases h : e = 0
  ·simp [zG, h, ih]
  ·simp [zG, h]
theorem firstE_stop (l k : List Int) (h : zG l ≠ 0) : zG (l ++ k) = zG l := by
 induction l with
 | nil => exact absurd rfl h
 | cons e l ih =>
  by_cases he : e = 0
  ·simp [zG, he] at h ⊢
   exact ih h
  ·simp [zG, he]
theorem firstE_append (l k : List Int) : zG (l ++ k) = zG (zG l :: k) := by
 by_cases h : zG l = 0
 ·rw [h]
  induction l with
  | nil => simp [zG]
  | cons e l ih =>
   by_cases he : e = 0
   ·simp [zG, he] at h ih ⊢
    exact ih h
   ·simp [zG, he] at h
 ·rw [firstE_stop _ _ h]
  simp [zG, h]
def errJ (i k f t z r rides : Int) (p : TP) (L : List TP) : Int :=
 zG ([chk i k f t z r, yK p, if wi rides 0 60 = true then 0 else 3] ++ L.map yK ++ [misT i p] ++ L.map (misT i))
theorem wrong1_any (a g s m z i : Int) (B : Nat) (w : World) (hc : w.cell? ⟨B, 0, none⟩ = some (.int .i64 i)) :
  Calls Tryz.prog 212 #[tp a g s m z, .pointer (some ⟨B, 0, none⟩)] w fun e w' => e = .returned (.bool (a != i)) ∧ Below w.heap.size w w' := by
 have hlt := World.block_lt_of_cell? w ⟨B, 0, none⟩ hc
 go_enter Tryz.func212, Tryz.ntmps212
 go_wp2_with fail
 go_ret
 exact ⟨rfl, (Below.refl _ _).alloc (Nat.le_refl _) _⟩
theorem indexW_any (i : Int) (B : Nat) (o : Option Addr) (cap : Nat) (L : List TP) (w : World) (hL : zI w o L) (hlen : L.length ≤ 9223372036854775807) (hc : w.cell? ⟨B, 0, none⟩ = some (.int .i64 i)) :
  Calls Tryz.prog 165 #[.slice o L.length cap, .func (.func 212) #[] #[.pointer (some ⟨B, 0, none⟩)]] w fun e w' =>
   (∃ n : Int, e = .returned (.int .i64 n) ∧ decide (0 ≤ n) = L.any (fun p => p.a != i)) ∧ Below w.heap.size w w' := by
 have HL := zA hL
 clear hL
 have hlt := World.block_lt_of_cell? w ⟨B, 0, none⟩ hc
 go_enter Tryz.func165, Tryz.ntmps165
 go_wp2_with fail
 go_loopw [8] (fun j wr => ∃ (q : Nat), q ≤ L.length ∧ j = .int .i64 q ∧ Hid ((L.take q).any (fun p => p.a != i) = false) ∧ Below w.heap.size w wr) (fun j _ => L.length - (intOf j).toNat)
 case atStart => exact ⟨0, Nat.zero_le _, rfl, by show _ = _; simp, Below.refl _ _⟩
 case round =>
  obtain ⟨q, hq, rfl, hF, hbr⟩ := hrel
  have c' : wr.cell? ⟨B, 0, none⟩ = some (.int .i64 i) := by rw [hbr.cell (p := ⟨B, 0, none⟩) hlt]; exact hc
  by_cases hgo : q < L.length
  ·obtain ⟨p, hp⟩ : ∃ p, L[q]? = some p := ⟨L[q], by simp [hgo]⟩
   have HS : Hid ((L.take (q + 1)).any (fun p => p.a != i) = (p.a != i)) := by
    show _ = _
    rw [List.take_add_one, hp, Option.toList_some, List.any_append, hF.out]
    simp
   obtain ⟨A, rfl, c0, c1, c2, c3, c4⟩ := (HL.out.below hbr) q p hp
   have HP := zA hp
   clear hp
   go_wp2_with fail
   refine (wrong1_any _ _ _ _ _ i B _ c').mono ?_
   rintro e w3 ⟨rfl, hb3⟩
   have hbr3 := hbr.trans (hb3.mono hbr.size)
   clear hbr hb3 c'
   cases hx : (p.a != i)
   ·rw [hx] at HS
    go_wp2_with fail
    exact ⟨⟨q + 1, by omega, by simp, HS, hbr3⟩, by simp [intOf]; omega⟩
   ·go_wp2_with fail
    go_ret
    refine ⟨⟨q, rfl, ?_⟩, hbr3⟩
    have hp := HP.out
    have : L.any (fun p => p.a != i) = true := by
     rw [List.any_eq_true]
     exact ⟨p, List.mem_of_getElem? hp, hx⟩
    simp [this]
  ·go_wp2_with fail
   go_ret
   refine ⟨⟨-1, rfl, ?_⟩, hbr⟩
   have h1 := hF.out
   rw [List.take_of_length_le (by omega)] at h1
   simp [h1]
theorem containsW_any (i : Int) (B : Nat) (o : Option Addr) (cap : Nat) (L : List TP) (w : World) (hL : zI w o L) (hlen : L.length ≤ 9223372036854775807) (hc : w.cell? ⟨B, 0, none⟩ = some (.int .i64 i)) :
  Calls Tryz.prog 132 #[.slice o L.length cap, .func (.func 212) #[] #[.pointer (some ⟨B, 0, none⟩)]] w fun e w' =>
   e = .returned (.bool (L.any (fun p => p.a != i))) ∧ Below w.heap.size w w' := by
 have HI := zA (indexW_any i B o cap L w hL hlen hc)
 clear hL hc
 go_enter Tryz.func132, Tryz.ntmps132
 go_wp2_with fail
 refine HI.out.mono ?_
 rintro e w' ⟨⟨n, rfl, hn⟩, hb⟩
 have HN := zA hn
 clear hn
 go_wp2_with fail
 go_ret
 exact ⟨by rw [← HN.out]; rfl, hb⟩
theorem firstE_mis (i : Int) (L : List TP) : zG (L.map (misT i)) = if L.any (fun p => p.a != i) = true then 4 else 0 := by
 induction L with
 | nil => simp [zG]
 | cons p L ih =>
  by_cases h : p.a = i
  ·simp only [List.map_cons, zG, misT, h, if_true, List.any_cons]
   rw [show (misT i) = misT i from rfl] at ih
   simpa using ih
  ·simp [zG, misT, h]
theorem firstE_zero (l k : List Int) (h : zG l = 0) : zG (l ++ k) = zG k := by
 induction l with
 | nil => rfl
 | cons e l ih =>
  by_cases he : e = 0
  ·simp [zG, he] at h ⊢
   exact ih h
  ·simp [zG, he] at h
theorem errJ_end (i k f t z r rides : Int) (p : TP) (L : List TP) (h1 : chk i k f t z r = 0) (h2 : yK p = 0) (h3 : wi rides 0 60 = true) (h4 : zG (L.map yK) = 0) :
  errJ i k f t z r rides p L = if ((p.a != i) || L.any (fun p => p.a != i)) = true then 4 else 0 := by
 unfold errJ
 rw [List.append_assoc, List.append_assoc, firstE_zero _ _ (by simp [zG, h1, h2, h3]), firstE_zero _ _ h4]
 by_cases h : p.a = i
 ·have := firstE_mis i L
  simp only [List.cons_append, List.nil_append, zG, misT, h, if_true, bne_self_eq_false, Bool.false_or] at this ⊢
  exact this
 ·simp [zG, misT, h]
theorem errJ_was (i k f t z r rides : Int) (p : TP) (L : List TP) (h1 : chk i k f t z r = 0) (h2 : yK p = 0) (h3 : wi rides 0 60 = true) (q : Nat) (x : TP) (hx : L[q]? = some x) (h4 : zG ((L.take q).map yK) = 0) (h5 : yK x ≠ 0) :
  errJ i k f t z r rides p L = yK x := by
 unfold errJ
 rw [List.append_assoc, List.append_assoc, firstE_zero _ _ (by simp [zG, h1, h2, h3])]
 have : L.map yK = ((L.take q).map yK ++ [yK x]) ++ (L.drop (q + 1)).map yK := by
  have hq : q < L.length := (List.getElem?_eq_some_iff.mp hx).1
  rw [← List.map_singleton, ← List.map_append, ← List.map_append]
  congr 1
  rw [show [x] = [L[q]] by rw [(List.getElem?_eq_some_iff.mp hx).2], List.take_append_getElem, List.take_append_drop]
 rw [this, List.append_assoc, List.append_assoc, firstE_zero _ _ h4]
 simp [zG, h5]
theorem wrong_any (i k f t z r rides a g s m zone : Int) (o : Option Addr) (cap : Nat) (L : List TP) (w : World) (hL : zI w o L) (hlen : L.length ≤ 9223372036854775807) :
  Calls Tryz.prog 198 #[tk i k f t z r, .slice o L.length cap, .int .i64 rides, tp a g s m zone] w fun e w' =>
   e = .returned (.int .i64 (errJ i k f t z r rides ⟨a, g, s, m, zone⟩ L)) ∧ Below w.heap.size w w' := by
 have HL := zA hL
 clear hL
 have HW := zA (fun (h1 : chk i k f t z r = 0) (h2 : vB a g s m zone = 0) (h3 : wi rides 0 60 = true) => errJ_was i k f t z r rides ⟨a, g, s, m, zone⟩ L h1 h2 h3)
 have HE := zA (fun (h1 : chk i k f t z r = 0) (h2 : vB a g s m zone = 0) (h3 : wi rides 0 60 = true) => errJ_end i k f t z r rides ⟨a, g, s, m, zone⟩ L h1 h2 h3)
 have hways : ((chk i k f t z r != 0) = true ∧ errJ i k f t z r rides ⟨a, g, s, m, zone⟩ L = chk i k f t z r) ∨ (chk i k f t z r = 0 ∧ (vB a g s m zone != 0) = true ∧ errJ i k f t z r rides ⟨a, g, s, m, zone⟩ L = vB a g s m zone) ∨
   (chk i k f t z r = 0 ∧ vB a g s m zone = 0 ∧ wi rides 0 60 = false ∧ errJ i k f t z r rides ⟨a, g, s, m, zone⟩ L = 3) ∨ (chk i k f t z r = 0 ∧ vB a g s m zone = 0 ∧ wi rides 0 60 = true) := by
  unfold errJ
  by_cases h1 : chk i k f t z r = 0
  ·by_cases h2 : vB a g s m zone = 0
   ·cases h3 : wi rides 0 60
    ·simp [zG, yK, h1, h2]
    ·simp [h1, h2]
   ·simp [zG, yK, h1, h2]
  ·simp [zG, h1]
 generalize errJ i k f t z r rides ⟨a, g, s, m, zone⟩ L = R at *
 have HT := zA (fun W => check_any i k f t z r W)
 have HP := zA (fun W => checkP_any a g s m zone W)
 generalize chk i k f t z r = X at HT hways HW HE
 generalize vB a g s m zone = Y at HP hways HW HE
 rcases hways with ⟨h1, rfl⟩ | ⟨h1, h2, rfl⟩ | ⟨h1, h2, h3, rfl⟩ | ⟨h1, h2, h3⟩
 ·go_enter Tryz.func198, Tryz.ntmps198
  go_wp2_with fail
  refine (HT.out _).mono ?_
  rintro e wB ⟨rfl, hb1⟩
  obtain ⟨hc, hf⟩ := bcell hb1
  go_wp2_with fail
  go_ret
  exact ⟨rfl, ((((Below.refl w.heap.size w).alloc (Nat.le_refl _) _).alloc (by simp) _).trans (hb1.mono (by simp; omega)))⟩
 ·subst h1
  go_enter Tryz.func198, Tryz.ntmps198
  go_wp2_with fail
  refine (HT.out _).mono ?_
  rintro e wB ⟨rfl, hb1⟩
  obtain ⟨hc, hf⟩ := bcell hb1
  go_wp2_with fail
  refine (HP.out _).mono ?_
  rintro e wC ⟨rfl, hb2⟩
  have HB := zA (((((Below.refl w.heap.size w).alloc (Nat.le_refl _) _).alloc (by simp) _).trans (hb1.mono (by simp; omega))).trans (hb2.mono (by have := hb1.size; simp at this; omega)))
  clear hb1 hb2
  go_wp2_with fail
  go_ret
  exact ⟨rfl, HB.out⟩
 all_goals
  subst h1
  subst h2
  go_enter Tryz.func198, Tryz.ntmps198
  go_wp2_with fail
  refine (HT.out _).mono ?_
  rintro e w1 ⟨rfl, hb1⟩
  obtain ⟨hc, hf⟩ := bcell hb1
  go_wp2_with fail
  refine (HP.out _).mono ?_
  rintro e wC ⟨rfl, hb2⟩
  have HB := zA (((((Below.refl w.heap.size w).alloc (Nat.le_refl _) _).alloc (by simp) _).trans (hb1.mono (by simp; omega))).trans (hb2.mono (by have := hb1.size; simp at this; omega)))
  have HC := zA (show wC.cell? ⟨w.heap.size, 0, none⟩ = some (.int .i64 i) ∧ jN wC ⟨w.heap.size + 1, 0, none⟩ ⟨a, g, s, m, zone⟩ ∧ w.heap.size + 1 < wC.heap.size by
   have s1 := hb1.size
   have s2 := hb2.size
   simp at s1
   refine ⟨?_, ⟨?_, ?_, ?_, ?_, ?_⟩, by omega⟩
   ·rw [hb2.cell (p := ⟨w.heap.size, 0, none⟩) (show w.heap.size < w1.heap.size by omega), hc _ _ (by simp; omega)]
    simp [go_sem]
   all_goals
    rw [hb2.cell (show w.heap.size + 1 < w1.heap.size by omega), hc _ _ (by simp)]
    simp [go_sem])
  clear hb1 hb2 hc hf
  go_wp2_with (go_at_call 70; refine (yD _ _ _ _).mono ?_; rintro e wD ⟨rfl, hwD⟩; obtain rfl := hwD.symm)
 ·go_ret
  exact ⟨rfl, HB.out⟩
 ·have HW' := zA (HW.out trivial trivial h3)
  have HE' := zA (HE.out trivial trivial h3)
  clear HW HE
  go_loopw [31] (fun j wr => ∃ (q : Nat), q ≤ L.length ∧ j = .int .i64 q ∧ Hid (zG ((L.take q).map yK) = 0) ∧ Below wC.heap.size wC wr) (fun j _ => L.length - (intOf j).toNat)
  case atStart => exact ⟨0, Nat.zero_le _, rfl, by show _ = _; simp [zG], Below.refl _ _⟩
  case round =>
   obtain ⟨q, hq, rfl, hF, hbr⟩ := hrel
   have HBB := zA (HB.out.trans (hbr.mono HB.out.size))
   by_cases hgo : q < L.length
   ·obtain ⟨p, hp⟩ : ∃ p, L[q]? = some p := ⟨L[q], by simp [hgo]⟩
    have HS : Hid (vB p.a p.g p.s p.m p.z = 0 → zG ((L.take (q + 1)).map yK) = 0) := by
     show _ → _
     intro h0
     rw [List.take_add_one, hp, Option.toList_some, List.map_append, List.map_singleton, firstE_snoc, if_pos hF.out]
     exact h0
    have HS2 := zA (HW'.out q p hp hF.out)
    obtain ⟨A, rfl, c0, c1, c2, c3, c4⟩ := (HL.out.below HBB.out) q p hp
    clear hp
    go_wp2_with fail
    refine (checkP_any _ _ _ _ _ _).mono ?_
    rintro e w3 ⟨rfl, hb3⟩
    have HB3 : Hid (Below wr.heap.size wr w3) := by
     refine zA (Below.trans ?_ (hb3.mono ?_))
     ·repeat (first | with_reducible exact Below.refl _ _ | with_reducible refine Below.alloc ?_ (by simp) _ | with_reducible refine Below.setCell ?_ (by simp) _)
     ·simp
    have HB4 := zA (hbr.trans (HB3.out.mono hbr.size))
    clear hb3 hbr
    cases hx : (vB p.a p.g p.s p.m p.z != 0)
    ·go_wp2_with fail
     exact ⟨⟨q + 1, by omega, by simp, HS.out (by simpa using hx), HB4.out⟩, by simp [intOf]; omega⟩
    ·go_wp2_with fail
     go_ret
     exact ⟨by rw [HS2.out (by simpa [yK] using hx)]; rfl, HBB.out.trans (HB3.out.mono HBB.out.size)⟩
   ·have HF : Hid (R = if (a != i || L.any fun p => p.a != i) = true then 4 else 0) := by
     have h1 := hF.out
     rw [List.take_of_length_le (by omega)] at h1
     exact HE'.out h1
    obtain ⟨b0, b1, b2⟩ := HC.out
    have d0 : wr.cell? ⟨w.heap.size, 0, none⟩ = some (.int .i64 i) := by rw [hbr.cell (p := ⟨w.heap.size, 0, none⟩) (show w.heap.size < wC.heap.size by omega)]; exact b0
    obtain ⟨c0, c1, c2, c3, c4⟩ := b1.below hbr b2
    clear b0 b1 b2
    have hl0 : w.heap.size < wr.heap.size := World.block_lt_of_cell? wr ⟨w.heap.size, 0, none⟩ d0
    simp at c0 c1 c2 c3 c4
    cases hx : (a != i)
    ·rw [hx] at HF
     cases hy : L.any (fun p => p.a != i)
     all_goals
      rw [hy] at HF
      go_wp2_with fail
      refine (wrong1_any _ _ _ _ _ i _ _ d0).mono ?_
      rintro e w3 ⟨rfl, hb3⟩
      have d1 : w3.cell? ⟨w.heap.size, 0, none⟩ = some (.int .i64 i) := by rw [hb3.cell (p := ⟨w.heap.size, 0, none⟩) hl0]; exact d0
      go_wp2_with fail
      refine (containsW_any i _ o cap L w3 ((HL.out.below HBB.out).below hb3) hlen d1).mono ?_
      rintro e w4 ⟨rfl, hb4⟩
      go_wp2_with fail
      go_ret
      exact ⟨by rw [HF.out]; rfl, (HBB.out.trans (hb3.mono HBB.out.size)).trans (hb4.mono (Nat.le_trans HBB.out.size hb3.size))⟩
    ·rw [hx] at HF
     go_wp2_with fail
     refine (wrong1_any _ _ _ _ _ i _ _ d0).mono ?_
     rintro e w3 ⟨rfl, hb3⟩
     go_wp2_with fail
     go_ret
     exact ⟨by rw [HF.out]; rfl, (HBB.out.trans (hb3.mono HBB.out.size))⟩
structure TK where
 i : Int
 k : Int
 f : Int
 t : Int
 z : Int
 r : Int
structure Tik6 (w : World) (b : Addr) (p : TK) : Prop where
 c0 : w.cell? b = some (.int .i64 p.i)
 c1 : w.cell? ⟨b.block, b.off + 1, none⟩ = some (.int .i64 p.k)
 c2 : w.cell? ⟨b.block, b.off + 2, none⟩ = some (.int .i64 p.f)
 c3 : w.cell? ⟨b.block, b.off + 3, none⟩ = some (.int .i64 p.t)
 c4 : w.cell? ⟨b.block, b.off + 4, none⟩ = some (.int .i64 p.z)
 c5 : w.cell? ⟨b.block, b.off + 5, none⟩ = some (.int .i64 p.r)
theorem Tik6.lt {w : World} {b : Addr} {p : TK} (h : Tik6 w b p) : b.block < w.heap.size := World.block_lt_of_cell? w b h.c0
theorem Tik6.below {B : Nat} {w w' : World} {b : Addr} {p : TK} (h : Tik6 w b p) (hb : Below B w w') (hlt : b.block < B) : Tik6 w' b p :=
 ⟨by rw [hb.cell hlt]; exact h.c0, by rw [hb.cell (p := ⟨b.block, b.off + 1, none⟩) hlt]; exact h.c1, by rw [hb.cell (p := ⟨b.block, b.off + 2, none⟩) hlt]; exact h.c2,
  by rw [hb.cell (p := ⟨b.block, b.off + 3, none⟩) hlt]; exact h.c3, by rw [hb.cell (p := ⟨b.block, b.off + 4, none⟩) hlt]; exact h.c4,
  by rw [hb.cell (p := ⟨b.block, b.off + 5, none⟩) hlt]; exact h.c5⟩
def zV (w : World) (o : Option Addr) (L : List TK) : Prop := ∀ i p, L[i]? = some p → ∃ b, o = some b ∧ Tik6 w (b.add (i * 6)) p
theorem zV.below {w w' : World} {o : Option Addr} {L : List TK} (h : zV w o L) (hb : Below w.heap.size w w') : zV w' o L :=
 fun i p hi => have ⟨b, e, h5⟩ := h i p hi; ⟨b, e, h5.below hb h5.lt⟩
def qM (L : List TK) (id : Int) : Int := match L.findIdx? (fun p => p.i == id) with
 | some n => n
 | none => -1
theorem idxT_some {L : List TK} {id : Int} {q : Nat} {p : TK} (h : L[q]? = some p) (hp : p.i = id) (hno : ∀ j, j < q → ∀ p, L[j]? = some p → p.i ≠ id) : qM L id = q := by
 obtain ⟨hq, he⟩ := List.getElem?_eq_some_iff.1 h
 have : L.findIdx? (fun p => p.i == id) = some q := by
  rw [List.findIdx?_eq_some_iff_getElem]
  refine ⟨hq, by rw [he]; simpa using hp, fun j hj => ?_⟩
  have := hno j hj L[j] (by simp)
  simpa using this
 rw [qM, this]
theorem idxT_none {L : List TK} {id : Int} (hno : ∀ (j : Nat) (p : TK), L[j]? = some p → p.i ≠ id) : qM L id = -1 := by
 have : L.findIdx? (fun p => p.i == id) = none := by
  rw [List.findIdx?_eq_none_iff]
  intro p hp
  obtain ⟨j, hj⟩ := List.mem_iff_getElem?.1 hp
  simpa using hno j p hj
 rw [qM, this]
theorem ticketAt_any (o : Option Addr) (cap : Nat) (L : List TK) (id : Int) (w : World) (hL : zV w o L) (hlen : L.length ≤ 9223372036854775807) :
  Calls Tryz.prog 18 #[.slice o L.length cap, .int .i64 id] w fun e w' => e = .returned (.int .i64 (qM L id)) ∧ w' = w := by
 have HL := zA hL
 clear hL
 go_enter Tryz.func18, Tryz.ntmps18
 go_wp2
 go_loop [5] (fun i => ∃ q : Nat, q ≤ L.length ∧ i = .int .i64 q ∧ Hid (∀ j, j < q → ∀ p, L[j]? = some p → p.i ≠ id)) (fun i => L.length - (intOf i).toNat)
 case atStart => exact ⟨0, Nat.zero_le _, rfl, by intro j hj; omega⟩
 case round =>
  obtain ⟨q, hq, rfl, hno⟩ := hrel
  by_cases hlt : q < L.length
  ·obtain ⟨p, hp⟩ : ∃ p, L[q]? = some p := ⟨L[q], by simp [hlt]⟩
   obtain ⟨A, rfl, c0, _, _, _, _, _⟩ := HL.out q p hp
   have HPq := zA hp
   clear hp
   by_cases he : p.i = id
   ·have he' : (p.i == id) = true := by simpa using he
    have HR := zA (idxT_some HPq.out he hno.out)
    clear he
    go_wp2_with fail
    go_ret
    exact ⟨by rw [HR.out]; rfl, rfl⟩
   ·have he' : (p.i == id) = false := by simpa using he
    have HN : Hid (∀ j, j < q + 1 → ∀ p, L[j]? = some p → p.i ≠ id) := by
     intro j hj p' hp'
     by_cases h : j < q
     ·exact hno.out j h p' hp'
     ·obtain rfl : j = q := by omega
      rw [HPq.out] at hp'
      cases hp'
      exact he
    clear he
    go_wp2_with fail
    exact ⟨⟨q + 1, by omega, by simp, HN⟩, by simp [intOf]; omega⟩
  ·have HR := zA (idxT_none (L := L) (id := id) (fun j p hp => hno.out j (by have := (List.getElem?_eq_some_iff.1 hp).1; omega) p hp))
   go_wp2_with fail
   go_ret
   exact ⟨by rw [HR.out]; rfl, rfl⟩
def xL (L : List TP) (p : TP) : Bool := L.any fun x => x.g == p.g && x.s == p.s
def jU (L : List TP) : Int := match L.getLast? with
 | none => -1
 | some p => p.m
def goes (last m : Int) : Bool := decide (0 ≤ last ∧ last ≤ m ∧ m < last + 60)
theorem lastT_at (L : List TP) (p : TP) (n : Nat) (hn : L.length = n + 1) (hp : L[n]? = some p) : jU L = p.m := by
 rw [jU, List.getLast?_eq_getElem?, hn, Nat.add_sub_cancel, hp]
theorem goesOn_any (a g s m zone : Int) (o : Option Addr) (cap : Nat) (L : List TP) (w : World) (hL : zI w o L) (hlen : L.length ≤ 9223372036854775807) (hm : 0 ≤ m) (hm2 : m ≤ 9999) (hl : ∀ p ∈ L, 0 ≤ p.m ∧ p.m ≤ 9999) :
  Calls Tryz.prog 200 #[.slice o L.length cap, tp a g s m zone] w fun e w' => e = .returned (.bool (goes (jU L) m)) ∧ Below w.heap.size w w' := by
 rcases hn : L.length with _ | n
 ·have hL0 : L = [] := List.eq_nil_of_length_eq_zero hn
  subst hL0
  clear hL hl
  go_enter Tryz.func200, Tryz.ntmps200
  go_wp2_with fail
  go_ret
  exact ⟨by simp [goes, jU], (Below.refl _ _).alloc (Nat.le_refl _) _⟩
 ·obtain ⟨p, hp⟩ : ∃ p, L[n]? = some p := ⟨L[n]'(by omega), by simp [hn]⟩
  have h1 := hl p (List.mem_of_getElem? hp)
  have HR := zA (lastT_at L p n hn hp)
  obtain ⟨A, rfl, h5⟩ := hL n p hp
  obtain ⟨c0, c1, c2, c3, c4⟩ := h5.below ((Below.refl w.heap.size w).alloc (Nat.le_refl _) (.cells #[.int .i64 a, .int .i64 g, .int .i64 s, .int .i64 m, .int .i64 zone] 79)) h5.lt
  have HH := zA (show jN w (A.add (n * 5)) p from h5)
  have hnb : n < 9223372036854775807 := by omega
  clear h5 hL hp hn hl
  obtain ⟨e1, e2⟩ := h1
  go_enter Tryz.func200, Tryz.ntmps200
  go_wp2_with fail
  go_region
  go_wp2_with (go_at_call 70; refine (yD _ _ _ _).mono ?_; rintro e w' ⟨rfl, rfl⟩)
  go_ret
  refine ⟨?_, ((Below.refl w.heap.size w).alloc (Nat.le_refl _) _).drew⟩
  have e : wi (m - p.m) 0 59 = goes (jU L) m := by
   rw [HR.out]
   simp only [wi, goes, ← Bool.decide_and]
   exact decide_eq_decide.mpr ⟨fun h => by omega, fun h => by omega⟩
  rw [← e]
  rfl
theorem jO (l : List Int) (h : zG l = 0) : ∀ x ∈ l, x = 0 := by
 induction l with
 | nil => intro x hx; cases hx
 | cons e l ih =>
  by_cases he : e = 0
  ·simp [zG, he] at h
   intro x hx
   rcases List.mem_cons.mp hx with rfl | hx
   ·exact he
   ·exact ih h x hx
  ·simp [zG, he] at h
theorem chkP_right {a g s m z : Int} (h : vB a g s m z = 0) : (1 ≤ a ∧ a ≤ 9999) ∧ (0 ≤ g ∧ g ≤ 2) ∧ (1 ≤ s ∧ s ≤ 99) ∧ (0 ≤ m ∧ m ≤ 9999) ∧ isZ z = true := by
 unfold vB at h
 split at h
 ·simp at h
 ·split at h
  ·simp at h
  ·simp_all [wi]
theorem chk_right {i k f t z r : Int} (h : chk i k f t z r = 0) : (1 ≤ i ∧ i ≤ 9999) ∧ (0 ≤ f ∧ f ≤ 9999) ∧ (0 ≤ t ∧ t ≤ 9999) ∧ (1 ≤ z ∧ z ≤ 15) ∧ (1 ≤ k ∧ k ≤ 3) ∧ f ≤ t ∧ ridesF k r = true := by
 unfold chk at h
 split at h
 ·simp at h
 ·split at h
  ·simp at h
  ·split at h
   ·simp at h
   ·split at h
    ·simp at h
    ·simp_all [wi, inR]
theorem errJ_right {i k f t z r rides : Int} {p : TP} {L : List TP} (h : errJ i k f t z r rides p L = 0) :
  chk i k f t z r = 0 ∧ yK p = 0 ∧ wi rides 0 60 = true ∧ (∀ x ∈ L, yK x = 0) ∧ p.a = i ∧ (∀ x ∈ L, x.a = i) := by
 have h0 := jO _ h
 simp only [List.mem_append, List.mem_cons, List.not_mem_nil, or_false, List.mem_map] at h0
 refine ⟨h0 _ (by simp), h0 _ (by simp), ?_, fun x hx => h0 _ (Or.inl (Or.inl (Or.inr ⟨x, hx, rfl⟩))), ?_, fun x hx => ?_⟩
 ·have := h0 (if wi rides 0 60 = true then 0 else 3) (by simp)
  cases hw : wi rides 0 60
  ·simp [hw] at this
  ·rfl
 ·have := h0 (misT i p) (by simp)
  by_cases e : p.a = i
  ·exact e
  ·simp [misT, e] at this
 ·have := h0 (misT i x) (Or.inr ⟨x, hx, rfl⟩)
  by_cases e : x.a = i
  ·exact e
  ·simp [misT, e] at this
def judgeV (i k f t z r rides : Int) (p : TP) (L : List TP) : Int × Int :=
 if errJ i k f t z r rides p L ≠ 0 then (0, errJ i k f t z r rides p L) else judge k f t z r (jU L) rides p.m p.z
abbrev cK (i k f t z r : Int) (T : TypeId) : Obj := .cells #[.int .i64 i, .int .i64 k, .int .i64 f, .int .i64 t, .int .i64 z, .int .i64 r] T
abbrev cP (a g s m z : Int) (T : TypeId) : Obj := .cells #[.int .i64 a, .int .i64 g, .int .i64 s, .int .i64 m, .int .i64 z] T
def Boxes (w w1 : World) (x : TK) (p : TP) : Prop := Tik6 w1 ⟨w.heap.size + 1 + 1, 0, none⟩ x ∧ jN w1 ⟨w.heap.size + 1, 0, none⟩ p ∧ w.heap.size + 1 + 1 < w1.heap.size ∧ Below w.heap.size w w1
theorem boxes_of (i k f t z r a g s m zone : Int) (T1 T2 T3 : TypeId) (w w1 : World) (h : Below (((w.alloc (cK i k f t z r T1)).alloc (cP a g s m zone T2)).alloc (cK i k f t z r T3)).heap.size (((w.alloc (cK i k f t z r T1)).alloc (cP a g s m zone T2)).alloc (cK i k f t z r T3)) w1) :
  Boxes w w1 ⟨i, k, f, t, z, r⟩ ⟨a, g, s, m, zone⟩ := by
 have s1 := h.size
 simp at s1
 refine ⟨Tik6.below (w := ((w.alloc (cK i k f t z r T1)).alloc (cP a g s m zone T2)).alloc (cK i k f t z r T3)) ⟨?_, ?_, ?_, ?_, ?_, ?_⟩ h (by simp), jN.below (w := ((w.alloc (cK i k f t z r T1)).alloc (cP a g s m zone T2)).alloc (cK i k f t z r T3)) ⟨?_, ?_, ?_, ?_, ?_⟩ h (by simp), by omega,
  Below.trans ((((Below.refl _ _).alloc (Nat.le_refl _) _).alloc (by simp) _).alloc (by simp; omega) _) (h.mono (by simp; omega))⟩
 all_goals simp [go_sem]
theorem Boxes.on {w w1 w2 : World} {x : TK} {p : TP} (h : Boxes w w1 x p) (hb : Below w1.heap.size w1 w2) : Boxes w w2 x p :=
 ⟨h.1.below hb h.1.lt, h.2.1.below hb h.2.1.lt, Nat.lt_of_lt_of_le h.2.2.1 hb.size, h.2.2.2.trans (hb.mono h.2.2.2.size)⟩
theorem judge_any (i k f t z r rides a g s m zone : Int) (o : Option Addr) (cap : Nat) (L : List TP) (w : World) (hL : zI w o L) (hlen : L.length ≤ 9223372036854775807) :
  Calls Tryz.prog 188 #[tk i k f t z r, .slice o L.length cap, .int .i64 rides, tp a g s m zone] w fun e w' =>
   e = .returned (.tuple #[.int .i64 (judgeV i k f t z r rides ⟨a, g, s, m, zone⟩ L).1, .int .i64 (judgeV i k f t z r rides ⟨a, g, s, m, zone⟩ L).2]) ∧ Below w.heap.size w w' := by
 have HL := zA hL
 clear hL
 have HG := zA (fun (h : errJ i k f t z r rides ⟨a, g, s, m, zone⟩ L = 0) => errJ_right h)
 have HX := zA (fun W (h : zI W o L) => wrong_any i k f t z r rides a g s m zone o cap L W h hlen)
 generalize hJ : judgeV i k f t z r rides ⟨a, g, s, m, zone⟩ L = J
 unfold judgeV judge at hJ
 simp only [] at hJ
 generalize errJ i k f t z r rides ⟨a, g, s, m, zone⟩ L = E at *
 by_cases hE : E = 0
 ·subst hE
  obtain ⟨h1, h2, -, h4, -⟩ := HG.out rfl
  obtain ⟨-, -, -, ⟨z1, z2⟩, -⟩ := chk_right h1
  obtain ⟨-, -, -, ⟨m1, m2⟩, hzone⟩ := chkP_right h2
  have HS := zA (fun W => shut_any i k f t z r a g s m zone W (by omega) z2 hzone)
  have HGo := zA (fun W (h : zI W o L) => goesOn_any a g s m zone o cap L W h hlen m1 m2 (fun p hp => (chkP_right (h4 p hp)).2.2.2.1))
  clear h1 h2 h4 z1 z2 m1 m2 hzone HG
  generalize place f t z m zone = P at *
  have hgo : goes (jU L) m = decide (0 ≤ jU L ∧ jU L ≤ m ∧ m < jU L + 60) := rfl
  have hsp : spent k r rides = decide ((k = 1 ∧ 0 < rides) ∨ (k = 3 ∧ r ≤ rides)) := rfl
  have hc : ((P != 0) = true ∧ J = (3, P)) ∨ (P = 0 ∧ goes (jU L) m = true ∧ J = (2, 0)) ∨ (P = 0 ∧ goes (jU L) m = false ∧ spent k r rides = true ∧ J = (3, 10)) ∨ (P = 0 ∧ goes (jU L) m = false ∧ spent k r rides = false ∧ J = (1, 0)) := by
   rw [hgo, hsp, ← hJ]
   by_cases hP : P = 0
   ·by_cases c1 : 0 ≤ jU L ∧ jU L ≤ m ∧ m < jU L + 60
    ·simp [hP, c1]
    ·by_cases c2 : (k = 1 ∧ 0 < rides) ∨ (k = 3 ∧ r ≤ rides)
     ·simp only [hP, c1, c2]; simp
     ·simp only [hP, c1, c2]; simp
   ·simp [hP]
  clear hgo hsp hJ
  generalize goes (jU L) m = G at *
  have HSp := zA (fun W => spent_any i k f t z r rides W)
  generalize spent k r rides = Sp at *
  rcases hc with ⟨h1, rfl⟩ | ⟨rfl, rfl, rfl⟩ | ⟨rfl, rfl, rfl, rfl⟩ | ⟨rfl, rfl, rfl, rfl⟩
  all_goals
   go_enter Tryz.func188, Tryz.ntmps188
   go_wp2_with fail
   refine (HX.out _ (HL.out.below ?_)).mono ?_
   ·repeat (first | with_reducible exact Below.refl _ _ | with_reducible refine Below.alloc ?_ (by simp; try omega) _ | with_reducible refine Below.setCell ?_ (by simp; try omega) _)
   rintro e w1 ⟨rfl, hb1⟩
   have HB1 := zA (boxes_of _ _ _ _ _ _ _ _ _ _ _ _ _ _ _ _ hb1)
   clear hb1
   obtain ⟨⟨x0, x1, x2, x3, x4, x5⟩, ⟨y0, y1, y2, y3, y4⟩, -, -⟩ := HB1.out
   simp only [Nat.zero_add] at x0 x1 x2 x3 x4 x5 y0 y1 y2 y3 y4
   go_wp2_with fail
   refine (HS.out _).mono ?_
   rintro e w2 ⟨rfl, hb2⟩
   have HB2 := zA (HB1.out.on hb2)
   clear hb2 HB1 x0 x1 x2 x3 x4 x5 y0 y1 y2 y3 y4
   obtain ⟨⟨x0, x1, x2, x3, x4, x5⟩, ⟨y0, y1, y2, y3, y4⟩, -, -⟩ := HB2.out
   simp only [Nat.zero_add] at x0 x1 x2 x3 x4 x5 y0 y1 y2 y3 y4
   go_wp2_with fail
  ·go_ret2
   exact ⟨rfl, HB2.out.2.2.2⟩
  all_goals
   refine (HGo.out _ (HL.out.below HB2.out.2.2.2)).mono ?_
   rintro e w3 ⟨rfl, hb3⟩
   have HB3 := zA (HB2.out.on hb3)
   clear hb3 HB2 x0 x1 x2 x3 x4 x5 y0 y1 y2 y3 y4
   obtain ⟨⟨x0, x1, x2, x3, x4, x5⟩, ⟨y0, y1, y2, y3, y4⟩, -, -⟩ := HB3.out
   simp only [Nat.zero_add] at x0 x1 x2 x3 x4 x5 y0 y1 y2 y3 y4
   go_wp2_with fail
  ·go_ret2
   exact ⟨rfl, HB3.out.2.2.2⟩
  all_goals
   refine (HSp.out _).mono ?_
   rintro e w4 ⟨rfl, hb4⟩
   have HB4 := zA (HB3.out.on hb4)
   clear hb4 HB3 x0 x1 x2 x3 x4 x5 y0 y1 y2 y3 y4
   go_wp2_with fail
   go_ret2
   exact ⟨rfl, HB4.out.2.2.2⟩
 ·have hE' : (E != 0) = true := by simpa using hE
  rw [if_pos hE] at hJ
  subst hJ
  clear hE HG
  go_enter Tryz.func188, Tryz.ntmps188
  go_wp2_with fail
  refine (HX.out _ (HL.out.below ?_)).mono ?_
  ·repeat (first | with_reducible exact Below.refl _ _ | with_reducible refine Below.alloc ?_ (by simp; try omega) _ | with_reducible refine Below.setCell ?_ (by simp; try omega) _)
  rintro e w1 ⟨rfl, hb1⟩
  have HB1 := zA (boxes_of _ _ _ _ _ _ _ _ _ _ _ _ _ _ _ _ hb1)
  clear hb1
  go_wp2_with fail
  go_ret2
  exact ⟨rfl, HB1.out.2.2.2⟩
def zH (w : World) (o : Option Addr) (L : List Int) : Prop := ∀ (i : Nat) (v : Int), L[i]? = some v → ∃ b, o = some b ∧ w.cell? (b.add i) = some (.int .i64 v)
theorem zH.below {w w' : World} {o : Option Addr} {L : List Int} (h : zH w o L) (hb : Below w.heap.size w w') : zH w' o L :=
 fun i v hi => have ⟨b, e, h1⟩ := h i v hi; ⟨b, e, by rw [hb.cell (World.block_lt_of_cell? w _ h1)]; exact h1⟩
abbrev lg (o1 o2 o3 : Option Addr) (n1 c1 n2 c2 n3 c3 : Nat) : Value := .agg #[.slice o1 n1 c1, .slice o2 n2 c2, .slice o3 n3 c3]
def many (L : List (TP × Int)) (id : Int) : Int × Int := L.foldl (fun s x => if x.1.a = id ∧ x.2 = 1 then (s.1 + 1, x.1.m) else s) (0, -1)
theorem many_snoc (L : List (TP × Int)) (x : TP × Int) (id : Int) : many (L ++ [x]) id = if x.1.a = id ∧ x.2 = 1 then ((many L id).1 + 1, x.1.m) else many L id := by
 simp [many, List.foldl_append]
end
section
open Go.ChangeShapes Go.WideShapes Go.ChangeAt Go.RowKit Go.Deep
theorem own : ownKnob Tryz.prog.godebug = none := by kernel_rfl
theorem laid : laidOutB Tryz.prog = true := by kernel_rfl
theorem cells3' : Tryz.prog.cellsOf 3 = 1 := by kernel_rfl
theorem cells23 : Tryz.prog.cellsOf 34 = 6 := by kernel_rfl
section
variable {H : Type} {enc : TypeId × Value → H}
theorem six_of {W : World} {base fuel : Nat} {sp : Nat → Bool} {hd : Bool} {cs : List Value} {x : DataW H × List MemPlace} (hsz : cs.length = 6) (h : DataW.trod enc Tryz.prog W base sp hd fuel 34 cs = some x) :
  ∃ i k f t z r : Int, cs = [.int .i64 i, .int .i64 k, .int .i64 f, .int .i64 t, .int .i64 z, .int .i64 r] := by
 match cs, hsz with
 | [c0, c1, c2, c3, c4, c5], _ =>
 obtain ⟨xs, n, _, hx, hl, hlen, hfs⟩ := DataW.trod_struct Tryz.underlying34 h
 match xs, hlen with
 | [y0, y1, y2, y3, y4, y5], _ =>
 have g0 := hfs 0 _ rfl
 have g1 := hfs 1 _ rfl
 have g2 := hfs 2 _ rfl
 have g3 := hfs 3 _ rfl
 have g4 := hfs 4 _ rfl
 have g5 := hfs 5 _ rfl
 simp [cells3'] at g0 g1 g2 g3 g4 g5
 obtain ⟨i, e0, -⟩ := DataW.trod_int Tryz.underlying3 g0
 obtain ⟨k, e1, -⟩ := DataW.trod_int Tryz.underlying3 g1
 obtain ⟨f, e2, -⟩ := DataW.trod_int Tryz.underlying3 g2
 obtain ⟨t, e3, -⟩ := DataW.trod_int Tryz.underlying3 g3
 obtain ⟨z, e4, -⟩ := DataW.trod_int Tryz.underlying3 g4
 obtain ⟨r, e5, -⟩ := DataW.trod_int Tryz.underlying3 g5
 simp only [List.cons.injEq, and_true] at e0 e1 e2 e3 e4 e5
 subst e0 e1 e2 e3 e4 e5
 exact ⟨i, k, f, t, z, r, rfl⟩
theorem args_kept {P : Program} (hl : laidOutB P = true) {W W' : World} (hb : Below W.heap.size W W') : ∀ {ts : List TypeId} {vs : List Value} {ds : List (DataW H)} {ps : List MemPlace},
  (ts.all fun t => P.readableRec t && decide (t < P.types.size)) = true → DataW.TrodAll enc P W 0 (fun _ => true) true ts vs ds ps → (∀ x ∈ ps, x.block < W.heap.size) →
  DataW.TrodAll enc P W' 0 (fun b => decide (b < W.heap.size)) true ts vs ds ps
 | [], vs, ds, ps, _, h, _ => by
  obtain ⟨rfl, rfl, rfl⟩ := trodAll_nil h
  exact trodAll_mk0
 | t :: ts, vs, ds, ps, ht, h, hlt => by
  obtain ⟨v, vs', d, ds', p, q, rfl, rfl, rfl, h0, h1⟩ := trodAll_cons h
  simp only [List.all_cons, Bool.and_eq_true, decide_eq_true_eq] at ht
  exact trodAll_cons_mk (Below.trod hl ht.1.1 ht.1.2 h0 hb (fun x hx => hlt x (by simp [hx]))) (args_kept hl hb (by simpa using ht.2) h1 (fun x hx => hlt x (by simp [hx])))
end
end
section
open Go.RowKit
def tk0 : TK := ⟨0, 0, 0, 0, 0, 0⟩
def tp0 : TP := ⟨0, 0, 0, 0, 0⟩
def jV (p : TK) : Int := chk p.i p.k p.f p.t p.z p.r
def errK (T : List TK) (i : Nat) : Int := zG [jV (T.getD i tk0), if 0 < i ∧ (T.getD i tk0).i ≤ (T.getD (i - 1) tk0).i then 4 else 0]
def verd (T : List TK) (P : List TP) (V : List Int) (i : Nat) (p : TP) : Int × Int :=
 judge (T.getD (qM T p.a).toNat tk0).k (T.getD (qM T p.a).toNat tk0).f (T.getD (qM T p.a).toNat tk0).t (T.getD (qM T p.a).toNat tk0).z (T.getD (qM T p.a).toNat tk0).r
  (many ((P.zip V).take i) p.a).2 (many ((P.zip V).take i) p.a).1 p.m p.z
def errP (T : List TK) (P : List TP) (V : List Int) (i : Nat) : Int :=
 zG [yK (P.getD i tp0), if qM T (P.getD i tp0).a < 0 then 5 else 0, if xL (P.take i) (P.getD i tp0) = true then 6 else 0, if wi (V.getD i 0) 1 2 = true then 0 else 7,
  if 0 < i ∧ (P.getD i tp0).m < (P.getD (i - 1) tp0).m then 4 else 0, if (verd T P V i (P.getD i tp0)).1 = V.getD i 0 then 0 else 4]
def xC (T : List TK) (P : List TP) (V : List Int) : Int :=
 if 12 < T.length ∨ 60 < P.length ∨ P.length ≠ V.length then 2
 else zG ((List.range T.length).map (errK T) ++ (List.range P.length).map (errP T P V))
theorem firstE_all (f : Nat → Int) (n : Nat) (k : List Int) (h : ∀ j, j < n → f j = 0) : zG ((List.range n).map f ++ k) = zG k := by
 rw [firstE_append]
 have : zG ((List.range n).map f) = 0 := by
  induction n with
  | zero => rfl
  | succ n ih =>
   rw [List.range_succ, List.map_append, List.map_singleton, firstE_snoc, ih (fun j hj => h j (by omega)), if_pos rfl]
   exact h n (by omega)
 simp [this, zG]
theorem firstE_at (f : Nat → Int) (n q : Nat) (k : List Int) (h : ∀ j, j < q → f j = 0) (hq : q < n) (hne : f q ≠ 0) : zG ((List.range n).map f ++ k) = f q := by
 obtain ⟨m, rfl⟩ : ∃ m, n = q + 1 + m := ⟨n - (q + 1), by omega⟩
 rw [List.range_add, List.map_append, List.append_assoc, List.range_succ, List.map_append, List.append_assoc, firstE_all f q _ h]
 simp [zG, hne]
theorem chkL_many {T : List TK} {P : List TP} {V : List Int} (h : 12 < T.length ∨ 60 < P.length ∨ P.length ≠ V.length) : xC T P V = 2 := if_pos h
theorem chkL_ok {T : List TK} {P : List TP} {V : List Int} (h : ¬ (12 < T.length ∨ 60 < P.length ∨ P.length ≠ V.length)) (h1 : ∀ j, j < T.length → errK T j = 0) (h2 : ∀ j, j < P.length → errP T P V j = 0) : xC T P V = 0 := by
 rw [xC, if_neg h, firstE_all _ _ _ h1, ← List.append_nil ((List.range P.length).map _), firstE_all _ _ _ h2]; rfl
theorem errK_cases {T : List TK} {q : Nat} {p : TK} (hp : T[q]? = some p) : (jV p ≠ 0 ∧ errK T q = jV p) ∨ (jV p = 0 ∧ 0 < q ∧ p.i ≤ (T.getD (q - 1) tk0).i ∧ errK T q = 4) ∨ (jV p = 0 ∧ ¬ (0 < q ∧ p.i ≤ (T.getD (q - 1) tk0).i) ∧ errK T q = 0) := by
 have hg : T.getD q tk0 = p := by simp [List.getD, hp]
 unfold errK
 rw [hg]
 by_cases h : jV p = 0
 ·by_cases h2 : 0 < q ∧ p.i ≤ (T.getD (q - 1) tk0).i
  ·exact Or.inr (Or.inl ⟨h, h2.1, h2.2, by simp only [zG, h, if_true]; rw [if_pos h2]; rfl⟩)
  ·exact Or.inr (Or.inr ⟨h, h2, by simp only [zG, h, if_true]; rw [if_neg h2]; rfl⟩)
 ·exact Or.inl ⟨h, by simp [zG, h]⟩
theorem isNaN_any (a : Int) (w : World) : Calls Tryz.prog 197 #[.int .i64 a] w fun e w' => e = .returned (.bool false) ∧ w' = w := by
 go_enter Tryz.func197, Tryz.ntmps197
 go_wp2
 go_ret
 exact ⟨by simp, rfl⟩
def jF (a b : Int) : Int := if a < b then -1 else if b < a then 1 else 0
theorem compare_any (a b : Int) (w : World) : Calls Tryz.prog 184 #[.int .i64 a, .int .i64 b] w fun e w' => e = .returned (.int .i64 (jF a b)) ∧ w' = w := by
 have hc : (a < b ∧ jF a b = -1) ∨ (¬ a < b ∧ b < a ∧ jF a b = 1) ∨ (¬ a < b ∧ ¬ b < a ∧ jF a b = 0) := by
  unfold jF
  by_cases h1 : a < b
  ·simp [h1]
  ·by_cases h2 : b < a
   ·simp [h1, h2]
   ·simp [h1, h2]
 rcases hc with ⟨h1, h2⟩ | ⟨h1, h3, h2⟩ | ⟨h1, h3, h2⟩
 all_goals
  rw [h2]
  clear h2
  go_enter Tryz.func184, Tryz.ntmps184
  go_wp2_with (go_at_call 197; refine (isNaN_any _ _).mono ?_; rintro e w' ⟨rfl, rfl⟩)
  go_ret
  exact ⟨rfl, rfl⟩
theorem place1_any (i k f t z r id : Int) (w : World) : Calls Tryz.prog 183 #[tk i k f t z r, .int .i64 id] w fun e w' => e = .returned (.int .i64 (jF i id)) ∧ Below w.heap.size w w' := by
 go_enter Tryz.func183, Tryz.ntmps183
 go_wp2_with (go_at_call 184; refine (compare_any _ _ _).mono ?_; rintro e w' ⟨rfl, rfl⟩)
 go_ret
 exact ⟨rfl, (Below.refl _ _).alloc (Nat.le_refl _) _⟩
def jK (T : List TK) : Prop := ∀ (p q : Nat) (x y : TK), T[p]? = some x → T[q]? = some y → p < q → x.i < y.i
def qA (T : List TK) (id : Int) : Nat := T.findIdx fun x => decide (id ≤ x.i)
def qF (T : List TK) (id : Int) : Bool := T.any fun x => x.i == id
theorem posT_of {T : List TK} {id : Int} {n : Nat} (hn : n ≤ T.length) (h1 : ∀ q x, T[q]? = some x → q < n → x.i < id) (h2 : ∀ q x, T[q]? = some x → n ≤ q → id ≤ x.i) : qA T id = n := by
 unfold qA
 rcases Nat.lt_or_ge n T.length with h | h
 ·rw [List.findIdx_eq h]
  refine ⟨?_, fun j hj => ?_⟩
  ·simpa using h2 n T[n] (by simp [h]) (Nat.le_refl _)
  ·have := h1 j (T[j]'(by omega)) (by simp) hj
   simpa using this
 ·obtain rfl : n = T.length := by omega
  rw [List.findIdx_eq_length]
  intro x hx
  obtain ⟨j, hj⟩ := List.mem_iff_getElem?.1 hx
  have := h1 j x hj (List.getElem?_eq_some_iff.1 hj).1
  simpa using this
theorem hasT_at {T : List TK} {id : Int} {n : Nat} {x : TK} (hr : jK T) (hx : T[n]? = some x) (h1 : ∀ q x, T[q]? = some x → q < n → x.i < id) (h2 : ∀ q x, T[q]? = some x → n ≤ q → id ≤ x.i) : qF T id = decide (jF x.i id = 0) := by
 have h3 := h2 n x hx (Nat.le_refl _)
 have e : (jF x.i id = 0) ↔ x.i = id := by
  unfold jF
  split
  ·omega
  ·split <;> omega
 by_cases h : x.i = id
 ·rw [decide_eq_true (e.2 h), qF, List.any_eq_true]
  exact ⟨x, List.mem_of_getElem? hx, by simpa using h⟩
 ·rw [decide_eq_false (fun hh => h (e.1 hh)), qF, List.any_eq_false]
  intro y hy
  obtain ⟨j, hj⟩ := List.mem_iff_getElem?.1 hy
  rcases Nat.lt_trichotomy j n with hjn | rfl | hjn
  ·have := h1 j y hj hjn
   simp; omega
  ·rw [hx] at hj
   cases hj
   simpa using h
  ·have := hr n j x y hx hj hjn
   simp; omega
theorem hasT_none {T : List TK} {id : Int} (h1 : ∀ q x, T[q]? = some x → q < T.length → x.i < id) : qF T id = false := by
 rw [qF, List.any_eq_false]
 intro y hy
 obtain ⟨j, hj⟩ := List.mem_iff_getElem?.1 hy
 have := h1 j y hj (List.getElem?_eq_some_iff.1 hj).1
 simp; omega
theorem search_any (T : List TK) (id : Int) (o : Option Addr) (cap : Nat) (w : World) (hT : zV w o T) (hlen : T.length ≤ 12) (hr : jK T) :
  Calls Tryz.prog 182 #[.slice o T.length cap, .int .i64 id, .func (.func 183) #[] #[]] w fun e w' =>
   e = .returned (.tuple #[.int .i64 (qA T id), .bool (qF T id)]) ∧ Below w.heap.size w w' := by
 have HT := zA hT
 have HR := zA hr
 clear hT hr
 go_enter Tryz.func182, Tryz.ntmps182
 go_wp2_with fail
 go_loopw [9, 10] (fun a b wr => ∃ (lo hi : Nat), lo ≤ hi ∧ hi ≤ T.length ∧ a = .int .i64 lo ∧ b = .int .i64 hi ∧ Hid ((∀ q x, T[q]? = some x → q < lo → x.i < id) ∧ (∀ q x, T[q]? = some x → hi ≤ q → id ≤ x.i)) ∧ Below w.heap.size w wr) (fun a b _ => (intOf b).toNat - (intOf a).toNat)
 case atStart => exact ⟨0, T.length, Nat.zero_le _, Nat.le_refl _, rfl, rfl, ⟨fun q x _ h => by omega, fun q x h hq => by have := (List.getElem?_eq_some_iff.1 h).1; omega⟩, Below.refl _ _⟩
 case round =>
  obtain ⟨lo, hi, hlh, hhn, rfl, rfl, hI, hbr⟩ := hrel
  by_cases hgo : lo < hi
  ·obtain ⟨p, hp⟩ : ∃ p, T[(lo + hi) / 2]? = some p := ⟨T[(lo + hi) / 2]'(by omega), by simp⟩
   obtain ⟨A, rfl, c0, c1, c2, c3, c4, c5⟩ := (HT.out.below hbr) _ p hp
   have HP := zA hp
   clear hp
   go_wp2_with fail
   refine (place1_any _ _ _ _ _ _ _ _).mono ?_
   rintro e w3 ⟨rfl, hb3⟩
   have hbr3 := hbr.trans (hb3.mono hbr.size)
   clear hbr hb3 c0 c1 c2 c3 c4 c5
   by_cases hx : p.i < id
   ·have hc : jF p.i id = -1 := if_pos hx
    rw [hc]
    have HI : Hid ((∀ q x, T[q]? = some x → q < (lo + hi) / 2 + 1 → x.i < id) ∧ (∀ q x, T[q]? = some x → hi ≤ q → id ≤ x.i)) := by
     refine ⟨fun q x hq hlt => ?_, hI.out.2⟩
     rcases Nat.lt_or_ge q ((lo + hi) / 2) with h | h
     ·have := HR.out q _ x p hq HP.out h
      omega
     ·obtain rfl : q = (lo + hi) / 2 := by omega
      rw [HP.out] at hq
      cases hq
      exact hx
    clear hc hx
    go_wp2_with fail
    exact ⟨⟨(lo + hi) / 2 + 1, hi, by omega, hhn, by simp, rfl, HI, hbr3⟩, by simp [intOf]; omega⟩
   ·have hc : ¬ jF p.i id < 0 := by
     unfold jF
     rw [if_neg hx]
     split <;> omega
    have HI : Hid ((∀ q x, T[q]? = some x → q < lo → x.i < id) ∧ (∀ q x, T[q]? = some x → (lo + hi) / 2 ≤ q → id ≤ x.i)) := by
     refine ⟨hI.out.1, fun q x hq hlt => ?_⟩
     rcases Nat.lt_or_ge ((lo + hi) / 2) q with h | h
     ·have := HR.out _ q p x HP.out hq h
      omega
     ·obtain rfl : q = (lo + hi) / 2 := by omega
      rw [HP.out] at hq
      cases hq
      omega
    generalize jF p.i id = c at *
    go_wp2_with fail
    exact ⟨⟨lo, (lo + hi) / 2, by omega, by omega, rfl, by simp, HI, hbr3⟩, by simp [intOf]; omega⟩
  ·obtain rfl : lo = hi := by omega
   have HPos := zA (posT_of hhn hI.out.1 hI.out.2)
   rcases Nat.lt_or_ge lo T.length with hlt | hge
   ·obtain ⟨p, hp⟩ : ∃ p, T[lo]? = some p := ⟨T[lo], by simp [hlt]⟩
    obtain ⟨A, rfl, c0, c1, c2, c3, c4, c5⟩ := (HT.out.below hbr) _ p hp
    have HHas := zA (hasT_at HR.out hp hI.out.1 hI.out.2)
    clear hp
    go_wp2_with fail
    refine (place1_any _ _ _ _ _ _ _ _).mono ?_
    rintro e w3 ⟨rfl, hb3⟩
    have hbr3 := hbr.trans (hb3.mono hbr.size)
    clear hbr hb3 c0 c1 c2 c3 c4 c5
    go_wp2_with fail
    go_ret2
    refine ⟨?_, hbr3⟩
    rw [HPos.out, HHas.out]
    rfl
   ·obtain rfl : lo = T.length := by omega
    have HHas := zA (hasT_none hI.out.1)
    go_wp2_with fail
    go_ret2
    refine ⟨?_, hbr⟩
    rw [HPos.out, HHas.out]
    rfl
theorem place_any (T : List TK) (id : Int) (o1 o2 o3 : Option Addr) (c1 n2 c2 n3 c3 : Nat) (w : World) (hT : zV w o1 T) (hlen : T.length ≤ 12) (hr : jK T) :
  Calls Tryz.prog 153 #[lg o1 o2 o3 T.length c1 n2 c2 n3 c3, .int .i64 id] w fun e w' =>
   e = .returned (.tuple #[.int .i64 (qA T id), .bool (qF T id)]) ∧ Below w.heap.size w w' := by
 have HS := zA (fun W (h : zV W o1 T) => search_any T id o1 c1 W h hlen hr)
 have HT := zA hT
 clear hT hr hlen
 go_enter Tryz.func153, Tryz.ntmps153
 go_wp2_with fail
 refine (HS.out _ (HT.out.below ((Below.refl _ _).alloc (Nat.le_refl _) _))).mono ?_
 rintro e w3 ⟨rfl, hb3⟩
 go_wp2_with fail
 go_ret2
 exact ⟨rfl, ((Below.refl _ _).alloc (Nat.le_refl _) _).trans (hb3.mono (by simp))⟩
theorem unfit1_any (a g s m z : Int) (p : TP) (B : Nat) (w : World) (hc : jN w ⟨B, 0, none⟩ p) :
  Calls Tryz.prog 186 #[tp a g s m z, .pointer (some ⟨B, 0, none⟩)] w fun e w' => e = .returned (.bool (g == p.g && s == p.s)) ∧ Below w.heap.size w w' := by
 have hlt := hc.lt
 obtain ⟨c0, c1, c2, c3, c4⟩ := hc
 simp only [Nat.zero_add] at c0 c1 c2 c3 c4 hlt
 cases h1 : (g == p.g)
 all_goals
  go_enter Tryz.func186, Tryz.ntmps186
  go_wp2_with fail
  go_ret
  exact ⟨rfl, (Below.refl _ _).alloc (Nat.le_refl _) _⟩
theorem indexU_any (p : TP) (B : Nat) (o : Option Addr) (cap : Nat) (L : List TP) (w : World) (hL : zI w o L) (hlen : L.length ≤ 9223372036854775807) (hc : jN w ⟨B, 0, none⟩ p) :
  Calls Tryz.prog 165 #[.slice o L.length cap, .func (.func 186) #[] #[.pointer (some ⟨B, 0, none⟩)]] w fun e w' =>
   (∃ n : Int, e = .returned (.int .i64 n) ∧ decide (0 ≤ n) = xL L p) ∧ Below w.heap.size w w' := by
 have HL := zA hL
 have HC := zA hc
 clear hL hc
 go_enter Tryz.func165, Tryz.ntmps165
 go_wp2_with fail
 go_loopw [8] (fun j wr => ∃ (q : Nat), q ≤ L.length ∧ j = .int .i64 q ∧ Hid (xL (L.take q) p = false) ∧ Below w.heap.size w wr) (fun j _ => L.length - (intOf j).toNat)
 case atStart => exact ⟨0, Nat.zero_le _, rfl, by show _ = _; simp [xL], Below.refl _ _⟩
 case round =>
  obtain ⟨q, hq, rfl, hF, hbr⟩ := hrel
  by_cases hgo : q < L.length
  ·obtain ⟨x, hp⟩ : ∃ x, L[q]? = some x := ⟨L[q], by simp [hgo]⟩
   have HS : Hid (xL (L.take (q + 1)) p = (x.g == p.g && x.s == p.s)) := by
    show _ = _
    have h0 := hF.out
    unfold xL at h0 ⊢
    rw [List.take_add_one, hp, Option.toList_some, List.any_append, h0]
    simp
   obtain ⟨A, rfl, c0, c1, c2, c3, c4⟩ := (HL.out.below hbr) q x hp
   have HP := zA hp
   clear hp
   go_wp2_with fail
   refine (unfit1_any _ _ _ _ _ p B _ (HC.out.below hbr HC.out.lt)).mono ?_
   rintro e w3 ⟨rfl, hb3⟩
   have hbr3 := hbr.trans (hb3.mono hbr.size)
   clear hbr hb3
   cases hx : (x.g == p.g && x.s == p.s)
   ·rw [hx] at HS
    go_wp2_with fail
    exact ⟨⟨q + 1, by omega, by simp, HS, hbr3⟩, by simp [intOf]; omega⟩
   ·go_wp2_with fail
    go_ret
    refine ⟨⟨q, rfl, ?_⟩, hbr3⟩
    have hp := HP.out
    have : xL L p = true := by
     unfold xL
     rw [List.any_eq_true]
     exact ⟨x, List.mem_of_getElem? hp, hx⟩
    simp [this]
  ·go_wp2_with fail
   go_ret
   refine ⟨⟨-1, rfl, ?_⟩, hbr⟩
   have h1 := hF.out
   rw [List.take_of_length_le (by omega)] at h1
   simp [h1]
theorem containsU_any (p : TP) (B : Nat) (o : Option Addr) (cap : Nat) (L : List TP) (w : World) (hL : zI w o L) (hlen : L.length ≤ 9223372036854775807) (hc : jN w ⟨B, 0, none⟩ p) :
  Calls Tryz.prog 132 #[.slice o L.length cap, .func (.func 186) #[] #[.pointer (some ⟨B, 0, none⟩)]] w fun e w' =>
   e = .returned (.bool (xL L p)) ∧ Below w.heap.size w w' := by
 have HI := zA (indexU_any p B o cap L w hL hlen hc)
 clear hL hc
 go_enter Tryz.func132, Tryz.ntmps132
 go_wp2_with fail
 refine HI.out.mono ?_
 rintro e w' ⟨⟨n, rfl, hn⟩, hb⟩
 have HN := zA hn
 clear hn
 go_wp2_with fail
 go_ret
 exact ⟨by rw [← HN.out]; rfl, hb⟩
abbrev cL (o1 o2 o3 : Option Addr) (n1 c1 n2 c2 n3 c3 : Nat) (T : TypeId) : Obj := .cells #[.slice o1 n1 c1, .slice o2 n2 c2, .slice o3 n3 c3] T
structure Led3 (w : World) (b : Nat) (o1 o2 o3 : Option Addr) (n1 c1 n2 c2 n3 c3 : Nat) : Prop where
 c0 : w.cell? ⟨b, 0, none⟩ = some (.slice o1 n1 c1)
 c1 : w.cell? ⟨b, 1, none⟩ = some (.slice o2 n2 c2)
 c2 : w.cell? ⟨b, 2, none⟩ = some (.slice o3 n3 c3)
theorem Led3.lt {w : World} {b : Nat} {o1 o2 o3 : Option Addr} {n1 c1 n2 c2 n3 c3 : Nat} (h : Led3 w b o1 o2 o3 n1 c1 n2 c2 n3 c3) : b < w.heap.size := World.block_lt_of_cell? w ⟨b, 0, none⟩ h.c0
theorem Led3.below {B : Nat} {w w' : World} {b : Nat} {o1 o2 o3 : Option Addr} {n1 c1 n2 c2 n3 c3 : Nat} (h : Led3 w b o1 o2 o3 n1 c1 n2 c2 n3 c3) (hb : Below B w w') (hlt : b < B) : Led3 w' b o1 o2 o3 n1 c1 n2 c2 n3 c3 :=
 ⟨by rw [hb.cell (p := ⟨b, 0, none⟩) hlt]; exact h.c0, by rw [hb.cell (p := ⟨b, 1, none⟩) hlt]; exact h.c1, by rw [hb.cell (p := ⟨b, 2, none⟩) hlt]; exact h.c2⟩
def BoxesB (w w1 : World) (o1 o2 o3 : Option Addr) (n1 c1 n2 c2 n3 c3 : Nat) (p : TP) : Prop :=
 Led3 w1 w.heap.size o1 o2 o3 n1 c1 n2 c2 n3 c3 ∧ jN w1 ⟨w.heap.size + 1, 0, none⟩ p ∧ w.heap.size + 1 < w1.heap.size ∧ Below w.heap.size w w1
theorem boxesB_of (o1 o2 o3 : Option Addr) (n1 c1 n2 c2 n3 c3 : Nat) (a g s m zone : Int) (T1 T2 : TypeId) (w w1 : World) (h : Below ((w.alloc (cL o1 o2 o3 n1 c1 n2 c2 n3 c3 T1)).alloc (cP a g s m zone T2)).heap.size ((w.alloc (cL o1 o2 o3 n1 c1 n2 c2 n3 c3 T1)).alloc (cP a g s m zone T2)) w1) :
  BoxesB w w1 o1 o2 o3 n1 c1 n2 c2 n3 c3 ⟨a, g, s, m, zone⟩ := by
 have s1 := h.size
 simp at s1
 refine ⟨Led3.below (w := (w.alloc (cL o1 o2 o3 n1 c1 n2 c2 n3 c3 T1)).alloc (cP a g s m zone T2)) ⟨?_, ?_, ?_⟩ h (by simp; omega), jN.below (w := (w.alloc (cL o1 o2 o3 n1 c1 n2 c2 n3 c3 T1)).alloc (cP a g s m zone T2)) ⟨?_, ?_, ?_, ?_, ?_⟩ h (by simp), by omega,
  Below.trans (((Below.refl _ _).alloc (Nat.le_refl _) _).alloc (by simp) _) (h.mono (by simp; omega))⟩
 all_goals simp [go_sem]
theorem BoxesB.on {w w1 w2 : World} {o1 o2 o3 : Option Addr} {n1 c1 n2 c2 n3 c3 : Nat} {p : TP} (h : BoxesB w w1 o1 o2 o3 n1 c1 n2 c2 n3 c3 p) (hb : Below w1.heap.size w1 w2) : BoxesB w w2 o1 o2 o3 n1 c1 n2 c2 n3 c3 p :=
 ⟨h.1.below hb h.1.lt, h.2.1.below hb h.2.1.lt, Nat.lt_of_lt_of_le h.2.2.1 hb.size, h.2.2.2.trans (hb.mono h.2.2.2.size)⟩
def unf (T : List TK) (P : List TP) (p : TP) : Int := zG [yK p, if qF T p.a = true then 0 else 5, if xL P p = true then 6 else 0]
theorem unfit_any (T : List TK) (P : List TP) (o1 o2 o3 : Option Addr) (c1 c2 n3 c3 : Nat) (a g s m z : Int) (w : World) (hT : zV w o1 T) (hP : zI w o2 P) (hlen : T.length ≤ 12) (hlen2 : P.length ≤ 60) (hr : jK T) :
  Calls Tryz.prog 157 #[lg o1 o2 o3 T.length c1 P.length c2 n3 c3, tp a g s m z] w fun e w' => e = .returned (.int .i64 (unf T P ⟨a, g, s, m, z⟩)) ∧ Below w.heap.size w w' := by
 have HT := zA hT
 have HP := zA hP
 have HC := zA (fun W => checkP_any a g s m z W)
 have HPl := zA (fun W (h : zV W o1 T) => place_any T a o1 o2 o3 c1 P.length c2 n3 c3 W h hlen hr)
 have HX := zA (fun W B (h : zI W o2 P) (hc : jN W ⟨B, 0, none⟩ ⟨a, g, s, m, z⟩) => containsU_any ⟨a, g, s, m, z⟩ B o2 c2 P W h (by omega) hc)
 clear hT hP hr hlen hlen2
 generalize hU : unf T P ⟨a, g, s, m, z⟩ = U
 have hc : ((vB a g s m z != 0) = true ∧ U = vB a g s m z) ∨ (vB a g s m z = 0 ∧ qF T a = false ∧ U = 5) ∨ (vB a g s m z = 0 ∧ qF T a = true ∧ xL P ⟨a, g, s, m, z⟩ = true ∧ U = 6) ∨ (vB a g s m z = 0 ∧ qF T a = true ∧ xL P ⟨a, g, s, m, z⟩ = false ∧ U = 0) := by
  rw [← hU]
  unfold unf
  by_cases h1 : vB a g s m z = 0
  ·cases h2 : qF T a
   ·simp [zG, yK, h1]
   ·cases h3 : xL P ⟨a, g, s, m, z⟩ <;> simp [zG, yK, h1]
  ·simp [zG, yK, h1]
 clear hU
 generalize vB a g s m z = X at *
 generalize qF T a = Y at *
 generalize xL P ⟨a, g, s, m, z⟩ = Z at *
 rcases hc with ⟨h1, rfl⟩ | ⟨rfl, rfl, rfl⟩ | ⟨rfl, rfl, rfl, rfl⟩ | ⟨rfl, rfl, rfl, rfl⟩
 all_goals
  go_enter Tryz.func157, Tryz.ntmps157
  go_wp2_with fail
  refine (HC.out _).mono ?_
  rintro e w1 ⟨rfl, hb1⟩
  have HB1 := zA (boxesB_of _ _ _ _ _ _ _ _ _ _ _ _ _ _ _ _ _ _ hb1)
  clear hb1
  obtain ⟨⟨x0, x1, x2⟩, ⟨y0, y1, y2, y3, y4⟩, -, -⟩ := HB1.out
  simp only [Nat.zero_add] at x0 x1 x2 y0 y1 y2 y3 y4
  go_wp2_with fail
 ·go_ret
  exact ⟨rfl, HB1.out.2.2.2⟩
 all_goals
  refine (HPl.out _ (HT.out.below HB1.out.2.2.2)).mono ?_
  rintro e w2 ⟨rfl, hb2⟩
  have HB2 := zA (HB1.out.on hb2)
  clear hb2 HB1 x0 x1 x2 y0 y1 y2 y3 y4
  obtain ⟨⟨x0, x1, x2⟩, ⟨y0, y1, y2, y3, y4⟩, -, -⟩ := HB2.out
  simp only [Nat.zero_add] at x0 x1 x2 y0 y1 y2 y3 y4
  go_wp2_with fail
 ·go_ret
  exact ⟨rfl, HB2.out.2.2.2⟩
 all_goals
  refine (HX.out _ _ (HP.out.below HB2.out.2.2.2) HB2.out.2.1).mono ?_
  rintro e w3 ⟨rfl, hb3⟩
  have HB3 := zA (HB2.out.on hb3)
  clear hb3 HB2 x0 x1 x2 y0 y1 y2 y3 y4
  go_wp2_with fail
  go_ret
  exact ⟨rfl, HB3.out.2.2.2⟩
def earlyB (P : List TP) (m : Int) : Bool := match P.getLast? with
 | none => false
 | some p => decide (m < p.m)
theorem early_any (P : List TP) (o1 o2 o3 : Option Addr) (n1 c1 c2 n3 c3 : Nat) (a g s m z : Int) (w : World) (hP : zI w o2 P) (hlen : P.length ≤ 60) :
  Calls Tryz.prog 158 #[lg o1 o2 o3 n1 c1 P.length c2 n3 c3, tp a g s m z] w fun e w' => e = .returned (.bool (earlyB P m)) ∧ Below w.heap.size w w' := by
 rcases hn : P.length with _ | n
 ·have hL0 : P = [] := List.eq_nil_of_length_eq_zero hn
  subst hL0
  clear hP
  go_enter Tryz.func158, Tryz.ntmps158
  go_wp2
  go_region
  go_wp2
  go_ret
  exact ⟨by simp [earlyB], (((Below.refl _ _).alloc (Nat.le_refl _) _).alloc (by simp) _).drew⟩
 ·obtain ⟨p, hp⟩ : ∃ p, P[n]? = some p := ⟨P[n]'(by omega), by simp [hn]⟩
  have HE : Hid (earlyB P m = decide (m < p.m)) := by
   show _ = _
   rw [earlyB, List.getLast?_eq_getElem?, hn, Nat.add_sub_cancel, hp]
  obtain ⟨A, rfl, h5⟩ := hP n p hp
  have hnb : n < 60 := by omega
  obtain ⟨d0, d1, d2, d3, d4⟩ := h5.below (((Below.refl w.heap.size w).alloc (Nat.le_refl _) (cL o1 (some A) o3 n1 c1 (n + 1) c2 n3 c3 143)).alloc (by simp) (cP a g s m z 79)) h5.lt
  clear h5 hP hp hn hlen
  go_enter Tryz.func158, Tryz.ntmps158
  go_wp2
  go_region
  go_wp2
  go_ret
  exact ⟨by rw [HE.out]; rfl, (((Below.refl _ _).alloc (Nat.le_refl _) _).alloc (by simp) _).drew⟩
theorem info32 : (Tryz.prog.info? 79).map (fun i => (i.zero, i.size, i.bytes)) = some (some (.agg #[.int .i64 0, .int .i64 0, .int .i64 0, .int .i64 0, .int .i64 0]), 5, 40) := by kernel_rfl
def yA (L : List TP) : List Value := L.flatMap fun p => [.int .i64 p.a, .int .i64 p.g, .int .i64 p.s, .int .i64 p.m, .int .i64 p.z]
theorem cellsP_len (L : List TP) : (yA L).length = L.length * 5 := by
 induction L with
 | nil => rfl
 | cons p L ih =>
  rw [yA, List.flatMap_cons, List.length_append, List.length_cons, ← yA, ih]
  simp; omega
theorem xU (L : List TP) (p : TP) : yA (L ++ [p]) = yA L ++ [.int .i64 p.a, .int .i64 p.g, .int .i64 p.s, .int .i64 p.m, .int .i64 p.z] := by simp [yA]
theorem cellsP_get (L : List TP) (i : Nat) (p : TP) (h : L[i]? = some p) (j : Nat) (hj : j < 5) : (yA L)[i * 5 + j]? = [Value.int .i64 p.a, .int .i64 p.g, .int .i64 p.s, .int .i64 p.m, .int .i64 p.z][j]? := by
 induction L generalizing i with
 | nil => simp at h
 | cons q L ih =>
  rw [yA, List.flatMap_cons, ← yA]
  match i, h with
  | 0, h =>
   simp at h
   subst h
   rw [List.getElem?_append_left (by simp; omega)]
   simp
  | i + 1, h =>
   rw [List.getElem?_append_right (by simp; omega)]
   simp only [List.length_cons, List.length_nil]
   rw [show (i + 1) * 5 + j - (0 + 1 + 1 + 1 + 1 + 1) = i * 5 + j by omega]
   exact ih i (by simpa using h)
theorem add_block (a : Addr) (n : Nat) : (a.add n).block = a.block := by
 unfold Addr.add
 split <;> rfl
theorem taps_own {w : World} {base n : Nat} {v : Value} {L : List TP} (h : w.ownsRow base 79 5 v n (yA L)) : n = L.length ∧ ∃ (o : Option Addr) (cap : Nat), v = .slice o L.length cap ∧ zI w o L := by
 have hn : n = L.length := by have := h.1; rw [cellsP_len] at this; omega
 subst hn
 refine ⟨rfl, ?_⟩
 have hc := fun g => h.cells (g := g)
 rcases h.2 with ⟨rfl, h0⟩ | ⟨g, cap, cur, rfl, -⟩
 ·have : L = [] := List.eq_nil_of_length_eq_zero h0
  subst this
  exact ⟨none, 0, rfl, fun i p hi => by simp at hi⟩
 ·refine ⟨_, cap, rfl, fun i p hi => ⟨_, rfl, ?_⟩⟩
  have e := fun j hj => cellsP_get L i p hi j hj
  have c := fun j u hu => hc g rfl (i * 5 + j) u hu
  have a0 : ∀ j, ((⟨g, 0, none⟩ : Addr).add (i * 5 + j)) = ⟨((⟨g, 0, none⟩ : Addr).add (i * 5)).block, ((⟨g, 0, none⟩ : Addr).add (i * 5)).off + j, none⟩ := by
   intro j
   by_cases h1 : i * 5 = 0 <;> by_cases h2 : j = 0 <;> simp [Addr.add, h1, h2]
  refine ⟨?_, ?_, ?_, ?_, ?_⟩
  ·have := c 0 _ (e 0 (by omega))
   simpa using this
  ·rw [← a0]; exact c 1 _ (e 1 (by omega))
  ·rw [← a0]; exact c 2 _ (e 2 (by omega))
  ·rw [← a0]; exact c 3 _ (e 3 (by omega))
  ·rw [← a0]; exact c 4 _ (e 4 (by omega))
def yR (X : List (TP × Int)) (id : Int) : List TP := (X.filter fun x => x.1.a == id && x.2 == 1).map (·.1)
theorem ridesL_snoc (X : List (TP × Int)) (x : TP × Int) (id : Int) : yR (X ++ [x]) id = if (x.1.a == id && x.2 == 1) = true then yR X id ++ [x.1] else yR X id := by
 unfold yR
 rw [List.filter_append]
 by_cases h : (x.1.a == id && x.2 == 1) = true
 ·simp only [List.filter_cons, h, if_true, List.filter_nil, List.map_append, List.map_cons, List.map_nil]
 ·simp only [List.filter_cons, h, List.filter_nil]
  simp
theorem five_new (w : World) (a g s m z : Int) (T : TypeId) : ∀ j u, [Value.int .i64 a, .int .i64 g, .int .i64 s, .int .i64 m, .int .i64 z][j]? = some u → (w.alloc (cP a g s m z T)).cell? ((⟨w.heap.size, 0, none⟩ : Addr).add j) = some u := by
 intro j u hj
 match j, hj with
 | 0, hj | 1, hj | 2, hj | 3, hj | 4, hj =>
  simp at hj
  subst hj
  simp [Addr.add, go_sem]
theorem rides_any (P : List TP) (V : List Int) (id : Int) (o1 o2 o3 : Option Addr) (n1 c1 c2 c3 : Nat) (w : World) (hP : zI w o2 P) (hV : zH w o3 V) (hlen : P.length ≤ 60) (hlv : V.length = P.length) :
  Calls Tryz.prog 187 #[lg o1 o2 o3 n1 c1 P.length c2 V.length c3, .int .i64 id] w fun e w' =>
   (∃ o cap, e = .returned (.slice o (yR (P.zip V) id).length cap) ∧ zI w' o (yR (P.zip V) id)) ∧ Below w.heap.size w w' := by
 obtain ⟨i0, hi, hz0, hz1, hz2⟩ := info_parts info32
 have HP := zA hP
 have HV := zA hV
 have hlen2 : V.length ≤ 60 := by omega
 have HLV := zA hlv
 clear hP hV hlv
 go_enter Tryz.func187, Tryz.ntmps187
 go_wp2_with fail
 go_loopw [5, 12] (fun v j wr => ∃ (q : Nat), q ≤ P.length ∧ j = .int .i64 q ∧ wr.ownsRow (w.heap.size + 1) 79 5 v (yR ((P.zip V).take q) id).length (yA (yR ((P.zip V).take q) id)) ∧ (yR ((P.zip V).take q) id).length ≤ q ∧
  Below (w.heap.size + 1) (w.alloc (cL o1 o2 o3 n1 c1 P.length c2 V.length c3 143)) wr) (fun _ j _ => P.length - (intOf j).toNat)
 case atStart => exact ⟨0, Nat.zero_le _, rfl, World.ownsRow_nil _ _ _ _, by simp [yR], Below.refl _ _⟩
 case round =>
  obtain ⟨q, hq, rfl, hown, hql, hbr⟩ := hrel
  have d0 : wr.cell? ⟨w.heap.size, 0, none⟩ = some (.slice o1 n1 c1) := by rw [hbr.cell (p := ⟨w.heap.size, 0, none⟩) (show w.heap.size < w.heap.size + 1 by omega)]; simp [go_sem]
  have d1 : wr.cell? ⟨w.heap.size, 1, none⟩ = some (.slice o2 P.length c2) := by rw [hbr.cell (p := ⟨w.heap.size, 1, none⟩) (show w.heap.size < w.heap.size + 1 by omega)]; simp [go_sem]
  have d2 : wr.cell? ⟨w.heap.size, 2, none⟩ = some (.slice o3 V.length c3) := by rw [hbr.cell (p := ⟨w.heap.size, 2, none⟩) (show w.heap.size < w.heap.size + 1 by omega)]; simp [go_sem]
  have hsz : w.heap.size < wr.heap.size := World.block_lt_of_cell? wr ⟨w.heap.size, 0, none⟩ d0
  have HB := zA (show Below w.heap.size w wr from ((Below.refl _ _).alloc (Nat.le_refl _) _).trans (hbr.mono (by omega)))
  by_cases hlt : q < P.length
  ·obtain ⟨p, hp⟩ : ∃ p, P[q]? = some p := ⟨P[q], by simp [hlt]⟩
   obtain ⟨v, hv⟩ : ∃ v, V[q]? = some v := ⟨V[q]'(by have := HLV.out; omega), by simp⟩
   have HS : Hid (yR ((P.zip V).take (q + 1)) id = if (p.a == id && v == 1) = true then yR ((P.zip V).take q) id ++ [p] else yR ((P.zip V).take q) id) := by
    show _ = _
    have : (P.zip V)[q]? = some (p, v) := by rw [List.getElem?_zip_eq_some]; exact ⟨hp, hv⟩
    rw [List.take_add_one, this, Option.toList_some, ridesL_snoc]
   obtain ⟨A, rfl, e0, e1, e2, e3, e4⟩ := (HP.out.below HB.out) q p hp
   obtain ⟨A3, rfl, f0⟩ := (HV.out.below HB.out) q v hv
   have hA : (A.add (q * 5)).block < wr.heap.size := World.block_lt_of_cell? wr (A.add (q * 5)) e0
   have hA3 : (A3.add q).block < wr.heap.size := World.block_lt_of_cell? wr (A3.add q) f0
   have hvl : q < V.length := by have := HLV.out; omega
   clear hp hv
   generalize yR ((P.zip V).take q) id = R at *
   cases h1 : (p.a == id)
   ·have e := HS.out
    rw [h1] at e
    simp only [Bool.false_and, Bool.false_eq_true, if_false] at e
    have HE := zA e
    clear e
    go_wp2_with fail
    refine ⟨⟨q + 1, by omega, by simp, ?_, ?_, hbr.alloc (by omega) _⟩, by simp [intOf]; omega⟩
    ·rw [HE.out]; exact hown.alloc _
    ·rw [HE.out]; omega
   ·cases h2 : (v == 1)
    ·have e := HS.out
     rw [h1, h2] at e
     simp only [Bool.and_false, Bool.false_eq_true, if_false] at e
     have HE := zA e
     clear e
     go_wp2_with fail
     refine ⟨⟨q + 1, by omega, by simp, ?_, ?_, hbr.alloc (by omega) _⟩, by simp [intOf]; omega⟩
     ·rw [HE.out]; exact hown.alloc _
     ·rw [HE.out]; omega
    ·have e := HS.out
     rw [h1, h2] at e
     simp only [Bool.and_true, if_true] at e
     have HE := zA e
     clear e
     have HN : Hid (∀ j u, [Value.int .i64 p.a, .int .i64 p.g, .int .i64 p.s, .int .i64 p.m, .int .i64 p.z][j]? = some u → ((wr.alloc (cP p.a p.g p.s p.m p.z 79)).alloc (cP p.a p.g p.s p.m p.z 79)).cell? ((⟨wr.heap.size + 1, 0, none⟩ : Addr).add j) = some u) := by
      have h := five_new (wr.alloc (cP p.a p.g p.s p.m p.z 79)) p.a p.g p.s p.m p.z 79
      rw [show (wr.alloc (cP p.a p.g p.s p.m p.z 79)).heap.size = wr.heap.size + 1 by simp] at h
      exact h
     go_wp2_with (at_builtin; refine wpList_append_own _ rfl (.tmp 30) (.tmp 32) 23 rfl (w.heap.size + 1) 79 i0 _ 5 40 Tryz.underlying23 hi hz0 hz1 hz2 rfl (by decide) _ R.length _ rfl ((hown.alloc _).alloc _) ⟨wr.heap.size + 1, 0, none⟩ 1 1 [.int .i64 p.a, .int .i64 p.g, .int .i64 p.s, .int .i64 p.m, .int .i64 p.z] rfl rfl HN.out (by intro u hu; simp at hu; rcases hu with rfl | rfl | rfl | rfl | rfl <;> rfl) (by unfold maxLen; omega) (by omega) (by simp; omega) ?_; intro v1 w1 hown1 hgrow1 _)
     refine ⟨⟨q + 1, by omega, by simp, ?_, ?_, ((hbr.alloc (by omega) _).alloc (by simp; omega) _).grown hgrow1 (by simp; omega) (fun k hk => (hown.lt k hk).1)⟩, by simp [intOf]; omega⟩
     ·rw [HE.out, xU, List.length_append]; exact hown1
     ·rw [HE.out, List.length_append]; simp; omega
  ·obtain rfl : q = P.length := by omega
   rw [List.take_of_length_le (by rw [List.length_zip]; omega)] at hown
   obtain ⟨-, o, cap, rfl, hta⟩ := taps_own hown
   have HO := zA hta
   clear hown hta
   go_wp2_with fail
   go_ret
   exact ⟨⟨o, cap, rfl, HO.out⟩, HB.out⟩
theorem info23 : (Tryz.prog.info? 34).map (fun i => (i.zero, i.size, i.bytes)) = some (some (.agg #[.int .i64 0, .int .i64 0, .int .i64 0, .int .i64 0, .int .i64 0, .int .i64 0]), 6, 48) := by kernel_rfl
theorem info3 : (Tryz.prog.info? 3).map (fun i => (i.zero, i.size, i.bytes)) = some (some (.int .i64 0), 1, 8) := by kernel_rfl
theorem xB (A : Addr) (n r : Nat) (hr : 0 < r) : (⟨(A.add n).block, (A.add n).off + r, none⟩ : Addr) = A.add (n + r) := by
 by_cases h1 : n = 0
 ·subst h1
  simp [Addr.add, Nat.ne_of_gt hr]
 ·simp [Addr.add, h1, Nat.ne_of_gt hr]
  omega
def qP (L : List TK) : List Value := L.flatMap fun p => [.int .i64 p.i, .int .i64 p.k, .int .i64 p.f, .int .i64 p.t, .int .i64 p.z, .int .i64 p.r]
def qJ (L : List Int) : List Value := L.map fun n => .int .i64 n
theorem cellsK_len (L : List TK) : (qP L).length = L.length * 6 := by
 induction L with
 | nil => rfl
 | cons p L ih =>
  rw [qP, List.flatMap_cons, List.length_append, List.length_cons, ← qP, ih]
  simp; omega
theorem cellsV_len (L : List Int) : (qJ L).length = L.length * 1 := by simp [qJ]
theorem cellsP_app (L M : List TP) : yA (L ++ M) = yA L ++ yA M := by simp [yA]
theorem cellsK_app (L M : List TK) : qP (L ++ M) = qP L ++ qP M := by simp [qP]
theorem cellsV_app (L M : List Int) : qJ (L ++ M) = qJ L ++ qJ M := by simp [qJ]
theorem cellsK_get (L : List TK) (i : Nat) (p : TK) (h : L[i]? = some p) (j : Nat) (hj : j < 6) : (qP L)[i * 6 + j]? = [Value.int .i64 p.i, .int .i64 p.k, .int .i64 p.f, .int .i64 p.t, .int .i64 p.z, .int .i64 p.r][j]? := by
 induction L generalizing i with
 | nil => simp at h
 | cons q L ih =>
  rw [qP, List.flatMap_cons, ← qP]
  match i, h with
  | 0, h =>
   simp at h
   subst h
   rw [List.getElem?_append_left (by simp; omega)]
   simp
  | i + 1, h =>
   rw [List.getElem?_append_right (by simp; omega)]
   simp only [List.length_cons, List.length_nil]
   rw [show (i + 1) * 6 + j - (0 + 1 + 1 + 1 + 1 + 1 + 1) = i * 6 + j by omega]
   exact ih i (by simpa using h)
theorem oneP (L : List TP) : ∀ u ∈ yA L, u.oneCell' = true := by
 intro u hu
 simp only [yA, List.mem_flatMap, List.mem_cons, List.not_mem_nil, or_false] at hu
 obtain ⟨p, -, h⟩ := hu
 rcases h with rfl | rfl | rfl | rfl | rfl <;> rfl
theorem oneK (L : List TK) : ∀ u ∈ qP L, u.oneCell' = true := by
 intro u hu
 simp only [qP, List.mem_flatMap, List.mem_cons, List.not_mem_nil, or_false] at hu
 obtain ⟨p, -, h⟩ := hu
 rcases h with rfl | rfl | rfl | rfl | rfl | rfl <;> rfl
theorem oneV (L : List Int) : ∀ u ∈ qJ L, u.oneCell' = true := by
 intro u hu
 obtain ⟨p, -, rfl⟩ := List.mem_map.1 hu
 rfl
theorem taps_cells {w : World} {A : Addr} {L : List TP} (h : zI w (some A) L) : ∀ j u, (yA L)[j]? = some u → w.cell? (A.add j) = some u := by
 intro j u hu
 have hlt := (List.getElem?_eq_some_iff.1 hu).1
 rw [cellsP_len] at hlt
 obtain ⟨p, hp⟩ : ∃ p, L[j / 5]? = some p := ⟨L[j / 5]'(by omega), by simp⟩
 obtain ⟨b, hb, c0, c1, c2, c3, c4⟩ := h _ p hp
 cases hb
 have hj : j = j / 5 * 5 + j % 5 := by omega
 have hr : j % 5 < 5 := by omega
 have e := cellsP_get L _ p hp (j % 5) hr
 rw [← hj, hu] at e
 generalize j / 5 = q at *
 generalize j % 5 = r at *
 subst hj
 match r, hr, e with
 | 0, _, e => simp at e; subst e; exact c0
 | 1, _, e => simp at e; subst e; rw [← xB _ _ _ (by decide)]; exact c1
 | 2, _, e => simp at e; subst e; rw [← xB _ _ _ (by decide)]; exact c2
 | 3, _, e => simp at e; subst e; rw [← xB _ _ _ (by decide)]; exact c3
 | 4, _, e => simp at e; subst e; rw [← xB _ _ _ (by decide)]; exact c4
theorem tiks_cells {w : World} {A : Addr} {L : List TK} (h : zV w (some A) L) : ∀ j u, (qP L)[j]? = some u → w.cell? (A.add j) = some u := by
 intro j u hu
 have hlt := (List.getElem?_eq_some_iff.1 hu).1
 rw [cellsK_len] at hlt
 obtain ⟨p, hp⟩ : ∃ p, L[j / 6]? = some p := ⟨L[j / 6]'(by omega), by simp⟩
 obtain ⟨b, hb, c0, c1, c2, c3, c4, c5⟩ := h _ p hp
 cases hb
 have hj : j = j / 6 * 6 + j % 6 := by omega
 have hr : j % 6 < 6 := by omega
 have e := cellsK_get L _ p hp (j % 6) hr
 rw [← hj, hu] at e
 generalize j / 6 = q at *
 generalize j % 6 = r at *
 subst hj
 match r, hr, e with
 | 0, _, e => simp at e; subst e; exact c0
 | 1, _, e => simp at e; subst e; rw [← xB _ _ _ (by decide)]; exact c1
 | 2, _, e => simp at e; subst e; rw [← xB _ _ _ (by decide)]; exact c2
 | 3, _, e => simp at e; subst e; rw [← xB _ _ _ (by decide)]; exact c3
 | 4, _, e => simp at e; subst e; rw [← xB _ _ _ (by decide)]; exact c4
 | 5, _, e => simp at e; subst e; rw [← xB _ _ _ (by decide)]; exact c5
theorem ints_cells {w : World} {A : Addr} {L : List Int} (h : zH w (some A) L) : ∀ j u, (qJ L)[j]? = some u → w.cell? (A.add j) = some u := by
 intro j u hu
 rw [qJ, List.getElem?_map, Option.map_eq_some_iff] at hu
 obtain ⟨n, hn, rfl⟩ := hu
 obtain ⟨b, hb, c⟩ := h j n hn
 cases hb
 exact c
def zR (w : World) (v : Value) (L : List TP) : Prop := ∃ o cap, v = .slice o L.length cap ∧ zI w o L ∧ L.length ≤ cap ∧ (o = none → cap = 0)
def yJ (w : World) (v : Value) (L : List TK) : Prop := ∃ o cap, v = .slice o L.length cap ∧ zV w o L ∧ L.length ≤ cap ∧ (o = none → cap = 0)
def zP (w : World) (v : Value) (L : List Int) : Prop := ∃ o cap, v = .slice o L.length cap ∧ zH w o L ∧ L.length ≤ cap ∧ (o = none → cap = 0)
theorem zR.below {w w' : World} {v : Value} {L : List TP} (h : zR w v L) (hb : Below w.heap.size w w') : zR w' v L := have ⟨o, c, e, h1, h2⟩ := h; ⟨o, c, e, h1.below hb, h2⟩
theorem yJ.below {w w' : World} {v : Value} {L : List TK} (h : yJ w v L) (hb : Below w.heap.size w w') : yJ w' v L := have ⟨o, c, e, h1, h2⟩ := h; ⟨o, c, e, h1.below hb, h2⟩
theorem zP.below {w w' : World} {v : Value} {L : List Int} (h : zP w v L) (hb : Below w.heap.size w w') : zP w' v L := have ⟨o, c, e, h1, h2⟩ := h; ⟨o, c, e, h1.below hb, h2⟩
theorem tapsV_own {w : World} {base n : Nat} {v : Value} {L : List TP} (h : w.ownsRow base 79 5 v n (yA L)) : zR w v L := by
 obtain ⟨hn, o, cap, rfl, hT⟩ := taps_own h
 subst hn
 rcases h.2 with ⟨e, h0⟩ | ⟨g, c, cur, e, -, -, hc, -⟩
 ·simp only [Value.slice.injEq] at e
  obtain ⟨rfl, -, rfl⟩ := e
  exact ⟨none, 0, rfl, hT, by omega, fun _ => rfl⟩
 ·simp only [Value.slice.injEq] at e
  obtain ⟨rfl, -, rfl⟩ := e
  exact ⟨_, _, rfl, hT, hc, fun h => by cases h⟩
theorem tiksV_own {w : World} {base n : Nat} {v : Value} {L : List TK} (h : w.ownsRow base 34 6 v n (qP L)) : yJ w v L := by
 have hn : n = L.length := by have := h.1; rw [cellsK_len] at this; omega
 subst hn
 have hc := fun g => h.cells (g := g)
 rcases h.2 with ⟨rfl, h0⟩ | ⟨g, cap, cur, rfl, -, -, hcap, -⟩
 ·have : L = [] := List.eq_nil_of_length_eq_zero h0
  subst this
  exact ⟨none, 0, rfl, fun i p hi => by simp at hi, by simp, fun _ => rfl⟩
 ·refine ⟨_, cap, rfl, fun i p hi => ⟨_, rfl, ?_⟩, hcap, fun h => by cases h⟩
  have e := fun j hj => cellsK_get L i p hi j hj
  have c := fun j u hu => hc g rfl (i * 6 + j) u hu
  refine ⟨?_, ?_, ?_, ?_, ?_, ?_⟩
  ·have := c 0 _ (e 0 (by omega))
   simpa using this
  ·rw [xB _ _ _ (by decide)]; exact c 1 _ (e 1 (by omega))
  ·rw [xB _ _ _ (by decide)]; exact c 2 _ (e 2 (by omega))
  ·rw [xB _ _ _ (by decide)]; exact c 3 _ (e 3 (by omega))
  ·rw [xB _ _ _ (by decide)]; exact c 4 _ (e 4 (by omega))
  ·rw [xB _ _ _ (by decide)]; exact c 5 _ (e 5 (by omega))
theorem intsV_own {w : World} {base n : Nat} {v : Value} {L : List Int} (h : w.ownsRow base 3 1 v n (qJ L)) : zP w v L := by
 have hn : n = L.length := by have := h.1; rw [cellsV_len] at this; omega
 subst hn
 have hc := fun g => h.cells (g := g)
 rcases h.2 with ⟨rfl, h0⟩ | ⟨g, cap, cur, rfl, -, -, hcap, -⟩
 ·have : L = [] := List.eq_nil_of_length_eq_zero h0
  subst this
  exact ⟨none, 0, rfl, fun i p hi => by simp at hi, by simp, fun _ => rfl⟩
 ·exact ⟨_, cap, rfl, fun i p hi => ⟨_, rfl, hc g rfl i _ (by simp [qJ, hi])⟩, hcap, fun h => by cases h⟩
end
section
open Go.ChangeShapes Go.WideShapes Go.ChangeAt Go.RowKit Go.Deep
section
variable {H : Type} {enc : TypeId × Value → H}
def IntsOk (W : World) (o : Option Addr) (L : List Int) (c : Nat) : Prop := zH W o L ∧ L.length ≤ 9223372036854775807 ∧ L.length ≤ c ∧ (o = none → c = 0)
abbrev gtV (i z s : Int) (oa : Option Addr) (na ca : Nat) (v : Int) (od : Option Addr) (nd cd : Nat) (l u : Int) : Value := .agg #[.int .i64 i, .int .i64 z, .int .i64 s, .slice oa na ca, .int .i64 v, .slice od nd cd, .int .i64 l, .int .i64 u]
end
end
section
open Go.RowKit
def zL (w w1 : World) (os : List Obj) : Prop :=
 (∀ i o, os[i]? = some o → w1.heap[w.heap.size + i]? = some o) ∧ w.heap.size + os.length ≤ w1.heap.size ∧ Below w.heap.size w w1
theorem zL.nil (w : World) : zL w w [] := ⟨fun i o h => by simp at h, by simp, Below.refl _ _⟩
theorem zL.on {w w1 w2 : World} {os : List Obj} (h : zL w w1 os) (hb : Below w1.heap.size w1 w2) : zL w w2 os := by
 refine ⟨fun i o hi => ?_, Nat.le_trans h.2.1 hb.size, h.2.2.trans (hb.mono h.2.2.size)⟩
 have h1 := h.1 i o hi
 have hlt : w.heap.size + i < w1.heap.size := by
  have := (List.getElem?_eq_some_iff.1 hi).1
  have := h.2.1
  omega
 rw [hb.block _ hlt]
 exact h1
theorem zL.more {w w1 : World} {os : List Obj} (h : zL w w1 os) (o : Obj) (he : w1.heap.size = w.heap.size + os.length) : zL w (w1.alloc o) (os ++ [o]) := by
 refine ⟨fun i x hi => ?_, by simp; omega, h.2.2.alloc h.2.2.size _⟩
 rcases Nat.lt_or_ge i os.length with hlt | hge
 ·rw [List.getElem?_append_left hlt] at hi
  have h1 := h.1 i x hi
  rw [((Below.refl w1.heap.size w1).alloc (Nat.le_refl _) o).block _ (by omega)]
  exact h1
 ·rw [List.getElem?_append_right hge] at hi
  have h0 : i - os.length = 0 := by
   have := (List.getElem?_eq_some_iff.1 hi).1
   simp at this
   omega
  rw [h0] at hi
  simp at hi
  subst hi
  rw [show w.heap.size + i = w1.heap.size by omega]
  exact heap_alloc_new w1 o
theorem zL.cell {w w1 : World} {os : List Obj} (h : zL w w1 os) (i j b : Nat) (vs : Array Value) (T : TypeId) (v : Value) (hi : os[i]? = some (.cells vs T)) (hb : b = w.heap.size + i) (hj : vs[j]? = some v) :
  w1.cell? ⟨b, j, none⟩ = some v := by
 subst hb
 rw [cell_of_row _ _ j _ _ _ (h.1 i _ hi)]
 exact hj
theorem zL.frozen {w w1 : World} {os : List Obj} (h : zL w w1 os) (i j b : Nat) (vs : Array Value) (T : TypeId) (hi : os[i]? = some (.cells vs T)) (hb : b = w.heap.size + i) :
  w1.frozen? ⟨b, j, none⟩ = false := by
 subst hb
 exact frozen_of_row _ _ j _ _ (h.1 i _ hi)
theorem zL.keep {w w1 w2 : World} {os : List Obj} (h : zL w w1 os) (hb : Below (w.heap.size + os.length) w1 w2) : zL w w2 os := by
 refine ⟨fun i o hi => ?_, Nat.le_trans h.2.1 hb.size, h.2.2.trans (hb.mono (Nat.le_add_right _ _))⟩
 have hlt := (List.getElem?_eq_some_iff.1 hi).1
 rw [hb.block _ (by omega)]
 exact h.1 i o hi
theorem zL.set {w w1 : World} {os : List Obj} (h : zL w w1 os) (p : Addr) (hp : w.heap.size + os.length ≤ p.block) (u : Value) : zL w (w1.setCell p u) os :=
 h.keep (Below.setCell (Below.refl _ _) hp u)
theorem zL.sub {w w1 : World} {os more : List Obj} (h : zL w w1 (os ++ more)) : zL w w1 os :=
 ⟨fun i o hi => h.1 i o (by rw [List.getElem?_append_left (List.getElem?_eq_some_iff.1 hi).1]; exact hi), by have := h.2.1; rw [List.length_append] at this; omega, h.2.2⟩
theorem zL.lt {w w1 : World} {os : List Obj} (h : zL w w1 os) (i b : Nat) (hi : i < os.length) (hb : b = w.heap.size + i) : b < w1.heap.size := by
 have := h.2.1
 omega
theorem zL.put {w w1 : World} {os : List Obj} (h : zL w w1 os) (i j b : Nat) (vs : Array Value) (T : TypeId) (u : Value) (hi : os[i]? = some (.cells vs T)) (hb : b = w.heap.size + i) :
  zL w (w1.setCell ⟨b, j, none⟩ u) (os.set i (.cells (vs.setIfInBounds j u) T)) := by
 subst hb
 refine ⟨fun n o hn => ?_, by rw [List.length_set, World.size_setCell]; exact h.2.1, h.2.2.setCell (p := ⟨w.heap.size + i, j, none⟩) (by simp) u⟩
 rw [List.getElem?_set] at hn
 by_cases hin : i = n
 ·subst hin
  have hlt := (List.getElem?_eq_some_iff.1 hi).1
  rw [if_pos rfl, if_pos hlt] at hn
  cases hn
  exact heap_setCell_same w1 _ j vs T u (h.1 i _ hi)
 ·rw [if_neg hin] at hn
  rw [heap_setCell_other w1 _ _ _ (by simp; omega)]
  exact h.1 n o hn
theorem zL.c2 {w w1 : World} {os : List Obj} (h : zL w w1 os) (i b : Nat) {vs : Array Value} {T : TypeId} {v0 v1 : Value} (hi : os[i]? = some (.cells vs T)) (hb : b = w.heap.size + i) (h0 : vs[0]? = some v0) (h1 : vs[1]? = some v1) : w1.cell? ⟨b, 0, none⟩ = some v0 ∧ w1.cell? ⟨b, 1, none⟩ = some v1 :=
  ⟨h.cell i 0 b vs T v0 hi hb h0, h.cell i 1 b vs T v1 hi hb h1⟩
theorem zL.c3 {w w1 : World} {os : List Obj} (h : zL w w1 os) (i b : Nat) {vs : Array Value} {T : TypeId} {v0 v1 v2 : Value} (hi : os[i]? = some (.cells vs T)) (hb : b = w.heap.size + i) (h0 : vs[0]? = some v0) (h1 : vs[1]? = some v1) (h2 : vs[2]? = some v2) : w1.cell? ⟨b, 0, none⟩ = some v0 ∧ w1.cell? ⟨b, 1, none⟩ = some v1 ∧ w1.cell? ⟨b, 2, none⟩ = some v2 :=
  ⟨h.cell i 0 b vs T v0 hi hb h0, h.cell i 1 b vs T v1 hi hb h1, h.cell i 2 b vs T v2 hi hb h2⟩
theorem zL.c4 {w w1 : World} {os : List Obj} (h : zL w w1 os) (i b : Nat) {vs : Array Value} {T : TypeId} {v0 v1 v2 v3 : Value} (hi : os[i]? = some (.cells vs T)) (hb : b = w.heap.size + i) (h0 : vs[0]? = some v0) (h1 : vs[1]? = some v1) (h2 : vs[2]? = some v2) (h3 : vs[3]? = some v3) : w1.cell? ⟨b, 0, none⟩ = some v0 ∧ w1.cell? ⟨b, 1, none⟩ = some v1 ∧ w1.cell? ⟨b, 2, none⟩ = some v2 ∧ w1.cell? ⟨b, 3, none⟩ = some v3 :=
  ⟨h.cell i 0 b vs T v0 hi hb h0, h.cell i 1 b vs T v1 hi hb h1, h.cell i 2 b vs T v2 hi hb h2, h.cell i 3 b vs T v3 hi hb h3⟩
theorem zL.c5 {w w1 : World} {os : List Obj} (h : zL w w1 os) (i b : Nat) {vs : Array Value} {T : TypeId} {v0 v1 v2 v3 v4 : Value} (hi : os[i]? = some (.cells vs T)) (hb : b = w.heap.size + i) (h0 : vs[0]? = some v0) (h1 : vs[1]? = some v1) (h2 : vs[2]? = some v2) (h3 : vs[3]? = some v3) (h4 : vs[4]? = some v4) : w1.cell? ⟨b, 0, none⟩ = some v0 ∧ w1.cell? ⟨b, 1, none⟩ = some v1 ∧ w1.cell? ⟨b, 2, none⟩ = some v2 ∧ w1.cell? ⟨b, 3, none⟩ = some v3 ∧ w1.cell? ⟨b, 4, none⟩ = some v4 :=
  ⟨h.cell i 0 b vs T v0 hi hb h0, h.cell i 1 b vs T v1 hi hb h1, h.cell i 2 b vs T v2 hi hb h2, h.cell i 3 b vs T v3 hi hb h3, h.cell i 4 b vs T v4 hi hb h4⟩
theorem zL.c6 {w w1 : World} {os : List Obj} (h : zL w w1 os) (i b : Nat) {vs : Array Value} {T : TypeId} {v0 v1 v2 v3 v4 v5 : Value} (hi : os[i]? = some (.cells vs T)) (hb : b = w.heap.size + i) (h0 : vs[0]? = some v0) (h1 : vs[1]? = some v1) (h2 : vs[2]? = some v2) (h3 : vs[3]? = some v3) (h4 : vs[4]? = some v4) (h5 : vs[5]? = some v5) : w1.cell? ⟨b, 0, none⟩ = some v0 ∧ w1.cell? ⟨b, 1, none⟩ = some v1 ∧ w1.cell? ⟨b, 2, none⟩ = some v2 ∧ w1.cell? ⟨b, 3, none⟩ = some v3 ∧ w1.cell? ⟨b, 4, none⟩ = some v4 ∧ w1.cell? ⟨b, 5, none⟩ = some v5 :=
  ⟨h.cell i 0 b vs T v0 hi hb h0, h.cell i 1 b vs T v1 hi hb h1, h.cell i 2 b vs T v2 hi hb h2, h.cell i 3 b vs T v3 hi hb h3, h.cell i 4 b vs T v4 hi hb h4, h.cell i 5 b vs T v5 hi hb h5⟩
theorem zL.c7 {w w1 : World} {os : List Obj} (h : zL w w1 os) (i b : Nat) {vs : Array Value} {T : TypeId} {v0 v1 v2 v3 v4 v5 v6 : Value} (hi : os[i]? = some (.cells vs T)) (hb : b = w.heap.size + i) (h0 : vs[0]? = some v0) (h1 : vs[1]? = some v1) (h2 : vs[2]? = some v2) (h3 : vs[3]? = some v3) (h4 : vs[4]? = some v4) (h5 : vs[5]? = some v5) (h6 : vs[6]? = some v6) : w1.cell? ⟨b, 0, none⟩ = some v0 ∧ w1.cell? ⟨b, 1, none⟩ = some v1 ∧ w1.cell? ⟨b, 2, none⟩ = some v2 ∧ w1.cell? ⟨b, 3, none⟩ = some v3 ∧ w1.cell? ⟨b, 4, none⟩ = some v4 ∧ w1.cell? ⟨b, 5, none⟩ = some v5 ∧ w1.cell? ⟨b, 6, none⟩ = some v6 :=
  ⟨h.cell i 0 b vs T v0 hi hb h0, h.cell i 1 b vs T v1 hi hb h1, h.cell i 2 b vs T v2 hi hb h2, h.cell i 3 b vs T v3 hi hb h3, h.cell i 4 b vs T v4 hi hb h4, h.cell i 5 b vs T v5 hi hb h5, h.cell i 6 b vs T v6 hi hb h6⟩
theorem zL.c8 {w w1 : World} {os : List Obj} (h : zL w w1 os) (i b : Nat) {vs : Array Value} {T : TypeId} {v0 v1 v2 v3 v4 v5 v6 v7 : Value} (hi : os[i]? = some (.cells vs T)) (hb : b = w.heap.size + i) (h0 : vs[0]? = some v0) (h1 : vs[1]? = some v1) (h2 : vs[2]? = some v2) (h3 : vs[3]? = some v3) (h4 : vs[4]? = some v4) (h5 : vs[5]? = some v5) (h6 : vs[6]? = some v6) (h7 : vs[7]? = some v7) : w1.cell? ⟨b, 0, none⟩ = some v0 ∧ w1.cell? ⟨b, 1, none⟩ = some v1 ∧ w1.cell? ⟨b, 2, none⟩ = some v2 ∧ w1.cell? ⟨b, 3, none⟩ = some v3 ∧ w1.cell? ⟨b, 4, none⟩ = some v4 ∧ w1.cell? ⟨b, 5, none⟩ = some v5 ∧ w1.cell? ⟨b, 6, none⟩ = some v6 ∧ w1.cell? ⟨b, 7, none⟩ = some v7 :=
  ⟨h.cell i 0 b vs T v0 hi hb h0, h.cell i 1 b vs T v1 hi hb h1, h.cell i 2 b vs T v2 hi hb h2, h.cell i 3 b vs T v3 hi hb h3, h.cell i 4 b vs T v4 hi hb h4, h.cell i 5 b vs T v5 hi hb h5, h.cell i 6 b vs T v6 hi hb h6, h.cell i 7 b vs T v7 hi hb h7⟩
theorem zY {w : World} {b : Nat} {T : TypeId} {v0 v1 v2 v3 v4 v5 v6 : Value} (h : w.heap[b]? = some (.cells #[v0, v1, v2, v3, v4, v5, v6] T (0, 0))) : w.cell? ⟨b, 0, none⟩ = some v0 ∧ w.cell? ⟨b, 1, none⟩ = some v1 ∧ w.cell? ⟨b, 2, none⟩ = some v2 ∧ w.cell? ⟨b, 3, none⟩ = some v3 ∧ w.cell? ⟨b, 4, none⟩ = some v4 ∧ w.cell? ⟨b, 5, none⟩ = some v5 ∧ w.cell? ⟨b, 6, none⟩ = some v6 := by
  refine ⟨?_, ?_, ?_, ?_, ?_, ?_, ?_⟩
  · rw [cell_of_row _ _ 0 _ _ _ h]; rfl
  · rw [cell_of_row _ _ 1 _ _ _ h]; rfl
  · rw [cell_of_row _ _ 2 _ _ _ h]; rfl
  · rw [cell_of_row _ _ 3 _ _ _ h]; rfl
  · rw [cell_of_row _ _ 4 _ _ _ h]; rfl
  · rw [cell_of_row _ _ 5 _ _ _ h]; rfl
  · rw [cell_of_row _ _ 6 _ _ _ h]; rfl
theorem qV {w : World} {b : Nat} {T : TypeId} {v0 v1 v2 v3 v4 v5 v6 v7 v8 v9 : Value} (h : w.heap[b]? = some (.cells #[v0, v1, v2, v3, v4, v5, v6, v7, v8, v9] T (0, 0))) : w.cell? ⟨b, 0, none⟩ = some v0 ∧ w.cell? ⟨b, 1, none⟩ = some v1 ∧ w.cell? ⟨b, 2, none⟩ = some v2 ∧ w.cell? ⟨b, 3, none⟩ = some v3 ∧ w.cell? ⟨b, 4, none⟩ = some v4 ∧ w.cell? ⟨b, 5, none⟩ = some v5 ∧ w.cell? ⟨b, 6, none⟩ = some v6 ∧ w.cell? ⟨b, 7, none⟩ = some v7 ∧ w.cell? ⟨b, 8, none⟩ = some v8 ∧ w.cell? ⟨b, 9, none⟩ = some v9 := by
  refine ⟨?_, ?_, ?_, ?_, ?_, ?_, ?_, ?_, ?_, ?_⟩
  · rw [cell_of_row _ _ 0 _ _ _ h]; rfl
  · rw [cell_of_row _ _ 1 _ _ _ h]; rfl
  · rw [cell_of_row _ _ 2 _ _ _ h]; rfl
  · rw [cell_of_row _ _ 3 _ _ _ h]; rfl
  · rw [cell_of_row _ _ 4 _ _ _ h]; rfl
  · rw [cell_of_row _ _ 5 _ _ _ h]; rfl
  · rw [cell_of_row _ _ 6 _ _ _ h]; rfl
  · rw [cell_of_row _ _ 7 _ _ _ h]; rfl
  · rw [cell_of_row _ _ 8 _ _ _ h]; rfl
  · rw [cell_of_row _ _ 9 _ _ _ h]; rfl
theorem zL.z2 {w w1 : World} {os : List Obj} (h : zL w w1 os) (i b : Nat) {vs : Array Value} {T : TypeId} (hi : os[i]? = some (.cells vs T)) (hb : b = w.heap.size + i) : w1.frozen? ⟨b, 0, none⟩ = false ∧ w1.frozen? ⟨b, 1, none⟩ = false :=
  ⟨h.frozen i 0 b vs T hi hb, h.frozen i 1 b vs T hi hb⟩
theorem zL.z3 {w w1 : World} {os : List Obj} (h : zL w w1 os) (i b : Nat) {vs : Array Value} {T : TypeId} (hi : os[i]? = some (.cells vs T)) (hb : b = w.heap.size + i) : w1.frozen? ⟨b, 0, none⟩ = false ∧ w1.frozen? ⟨b, 1, none⟩ = false ∧ w1.frozen? ⟨b, 2, none⟩ = false :=
  ⟨h.frozen i 0 b vs T hi hb, h.frozen i 1 b vs T hi hb, h.frozen i 2 b vs T hi hb⟩
theorem zL.z5 {w w1 : World} {os : List Obj} (h : zL w w1 os) (i b : Nat) {vs : Array Value} {T : TypeId} (hi : os[i]? = some (.cells vs T)) (hb : b = w.heap.size + i) : w1.frozen? ⟨b, 0, none⟩ = false ∧ w1.frozen? ⟨b, 1, none⟩ = false ∧ w1.frozen? ⟨b, 2, none⟩ = false ∧ w1.frozen? ⟨b, 3, none⟩ = false ∧ w1.frozen? ⟨b, 4, none⟩ = false :=
  ⟨h.frozen i 0 b vs T hi hb, h.frozen i 1 b vs T hi hb, h.frozen i 2 b vs T hi hb, h.frozen i 3 b vs T hi hb, h.frozen i 4 b vs T hi hb⟩
theorem zL.z7 {w w1 : World} {os : List Obj} (h : zL w w1 os) (i b : Nat) {vs : Array Value} {T : TypeId} (hi : os[i]? = some (.cells vs T)) (hb : b = w.heap.size + i) : w1.frozen? ⟨b, 0, none⟩ = false ∧ w1.frozen? ⟨b, 1, none⟩ = false ∧ w1.frozen? ⟨b, 2, none⟩ = false ∧ w1.frozen? ⟨b, 3, none⟩ = false ∧ w1.frozen? ⟨b, 4, none⟩ = false ∧ w1.frozen? ⟨b, 5, none⟩ = false ∧ w1.frozen? ⟨b, 6, none⟩ = false :=
  ⟨h.frozen i 0 b vs T hi hb, h.frozen i 1 b vs T hi hb, h.frozen i 2 b vs T hi hb, h.frozen i 3 b vs T hi hb, h.frozen i 4 b vs T hi hb, h.frozen i 5 b vs T hi hb, h.frozen i 6 b vs T hi hb⟩
theorem zL.z8 {w w1 : World} {os : List Obj} (h : zL w w1 os) (i b : Nat) {vs : Array Value} {T : TypeId} (hi : os[i]? = some (.cells vs T)) (hb : b = w.heap.size + i) : w1.frozen? ⟨b, 0, none⟩ = false ∧ w1.frozen? ⟨b, 1, none⟩ = false ∧ w1.frozen? ⟨b, 2, none⟩ = false ∧ w1.frozen? ⟨b, 3, none⟩ = false ∧ w1.frozen? ⟨b, 4, none⟩ = false ∧ w1.frozen? ⟨b, 5, none⟩ = false ∧ w1.frozen? ⟨b, 6, none⟩ = false ∧ w1.frozen? ⟨b, 7, none⟩ = false :=
  ⟨h.frozen i 0 b vs T hi hb, h.frozen i 1 b vs T hi hb, h.frozen i 2 b vs T hi hb, h.frozen i 3 b vs T hi hb, h.frozen i 4 b vs T hi hb, h.frozen i 5 b vs T hi hb, h.frozen i 6 b vs T hi hb, h.frozen i 7 b vs T hi hb⟩
theorem ltR {w : World} {b : Nat} {o : Obj} (h : Hid (w.heap[b]? = some o)) : b < w.heap.size := (Array.getElem?_eq_some_iff.1 h.out).1
theorem trR {a w w' : World} (h : Hid (Below a.heap.size a w)) (hb : Below w.heap.size w w') : Hid (Below a.heap.size a w') := zA (h.out.trans (hb.mono h.out.size))
theorem atR {w w' : World} {b : Nat} {o : Obj} (h : Hid (w.heap[b]? = some o)) (hb : Below w.heap.size w w') : Hid (w'.heap[b]? = some o) := zA ((hb.block _ (ltR h)).trans h.out)
abbrev dn (v : Int) (o : Option Addr) (n c : Nat) : Value := .agg #[.int .i64 v, .slice o n c]
theorem isId_any (n : Int) (w : World) :
  Calls Tryz.prog 171 #[.int .i64 n] w fun e w' => e = .returned (.bool (wi n 1 9999)) ∧ w' = w := by
 go_enter Tryz.func171, Tryz.ntmps171
 go_wp2_with (go_at_call 70; refine (yD _ _ _ _).mono ?_; rintro e w' ⟨rfl, rfl⟩)
 go_ret
 exact ⟨rfl, rfl⟩
def errD : Int → List Int → Int
 | _, [] => 0
 | l, x :: r => if wi x 1 9999 = false then 3 else if x ≤ l then 4 else errD x r
theorem errD_ways (l x : Int) (r : List Int) : (wi x 1 9999 = false ∧ errD l (x :: r) = 3) ∨ (wi x 1 9999 = true ∧ x ≤ l ∧ errD l (x :: r) = 4) ∨ (wi x 1 9999 = true ∧ ¬ x ≤ l ∧ errD l (x :: r) = errD x r) := by
 rw [errD]
 cases wi x 1 9999
 ·simp
 ·by_cases h : x ≤ l <;> simp [h]
theorem drop_cons {α : Type} {L : List α} {q : Nat} {x : α} (h : L[q]? = some x) : L.drop q = x :: L.drop (q + 1) := by
 obtain ⟨h1, h2⟩ := List.getElem?_eq_some_iff.1 h
 rw [List.drop_eq_getElem_cons h1, h2]
theorem checkIds_any (v : Int) (L : List Int) (o : Option Addr) (c : Nat) (w : World) (hL : zH w o L) (hlen : L.length ≤ 12) :
  Calls Tryz.prog 160 #[dn v o L.length c] w fun e w' => e = .returned (.int .i64 (errD 0 L)) ∧ Below w.heap.size w w' := by
 have HL := zA (hL.below ((Below.refl w.heap.size w).alloc (Nat.le_refl _) (.cells #[.int .i64 v, .slice o L.length c] 164)))
 have HB := zA ((Below.refl w.heap.size w).alloc (Nat.le_refl _) (.cells #[.int .i64 v, .slice o L.length c] 164))
 clear hL
 go_enter Tryz.func160, Tryz.ntmps160
 go_wp2_with fail
 generalize w.alloc (.cells #[.int .i64 v, .slice o L.length c] 164) = wa at *
 go_loopw [3, 10] (fun l j wr => ∃ (q : Nat) (x : Int), q ≤ L.length ∧ j = .int .i64 q ∧ l = .int .i64 x ∧ Hid (errD 0 L = errD x (L.drop q)) ∧ wr = wa) (fun _ j _ => L.length - (intOf j).toNat)
 case atStart => exact ⟨0, 0, Nat.zero_le _, rfl, rfl, by show _ = _; simp, rfl⟩
 case round =>
  obtain ⟨q, l, hq, rfl, rfl, hE, hw⟩ := hrel
  subst hw
  by_cases hgo : q < L.length
  ·obtain ⟨x, hx⟩ : ∃ x, L[q]? = some x := ⟨L[q], by simp [hgo]⟩
   obtain ⟨A, rfl, c0⟩ := HL.out q x hx
   have hE' := hE.out
   rw [drop_cons hx] at hE'
   have hp := errD_ways l x (L.drop (q + 1))
   rw [← hE'] at hp
   clear hE hE' hx
   rcases hp with ⟨h1, h3⟩ | ⟨h1, h2, h3⟩ | ⟨h1, h2, h3⟩
   all_goals
    have H3 := zA h3
    clear h3
   ·go_wp2_with (go_at_call 171; refine (isId_any _ _).mono ?_; rintro e w' ⟨rfl, rfl⟩; rw [h1])
    go_ret
    exact ⟨by rw [H3.out]; rfl, HB.out⟩
   ·go_wp2_with (go_at_call 171; refine (isId_any _ _).mono ?_; rintro e w' ⟨rfl, rfl⟩; rw [h1])
    go_ret
    exact ⟨by rw [H3.out]; rfl, HB.out⟩
   ·go_wp2_with (go_at_call 171; refine (isId_any _ _).mono ?_; rintro e w' ⟨rfl, rfl⟩; rw [h1])
    exact ⟨⟨q + 1, x, by omega, by simp, rfl, H3, by first | rfl | trivial⟩, by simp [intOf]; omega⟩
  ·have hE' := hE.out
   rw [List.drop_of_length_le (by omega)] at hE'
   have HE := zA hE'
   clear hE hE'
   go_wp2_with fail
   go_ret
   exact ⟨by rw [HE.out]; rfl, HB.out⟩
def yZ (v : Int) (L : List Int) : Int := if wi v 0 999 = false then 3 else if 12 < L.length then 2 else if errD 0 L = 0 then (if v < L.length then 4 else 0) else errD 0 L
theorem chkD_ways (v : Int) (L : List Int) : (wi v 0 999 = false ∧ yZ v L = 3) ∨ (wi v 0 999 = true ∧ 12 < L.length ∧ yZ v L = 2) ∨ (wi v 0 999 = true ∧ ¬ 12 < L.length ∧ errD 0 L ≠ 0 ∧ yZ v L = errD 0 L) ∨
  (wi v 0 999 = true ∧ ¬ 12 < L.length ∧ errD 0 L = 0 ∧ v < L.length ∧ yZ v L = 4) ∨ (wi v 0 999 = true ∧ ¬ 12 < L.length ∧ errD 0 L = 0 ∧ ¬ v < L.length ∧ yZ v L = 0) := by
 unfold yZ
 cases wi v 0 999
 ·simp
 ·by_cases h1 : 12 < L.length
  ·simp [h1]
  ·by_cases h2 : errD 0 L = 0
   ·by_cases h3 : v < L.length <;> simp [h1, h2, h3]
   ·simp [h1, h2]
theorem checkD_any (v : Int) (L : List Int) (o : Option Addr) (c : Nat) (w : World) (hL : zH w o L) (hlen : L.length ≤ 9223372036854775807) :
  Calls Tryz.prog 128 #[dn v o L.length c] w fun e w' => e = .returned (.int .i64 (yZ v L)) ∧ Below w.heap.size w w' := by
 have HI := zA (fun W (h : zH W o L) (h' : ¬ 12 < L.length) => checkIds_any v L o c W h (by omega))
 have hBa := (zL.nil w).more (.cells #[.int .i64 v, .slice o L.length c] 164) (by simp)
 have HL := zA hL
 clear hL
 rcases chkD_ways v L with ⟨h1, h4⟩ | ⟨h1, h2, h4⟩ | ⟨h1, h2, h3, h4⟩ | ⟨h1, h2, h3, h5, h4⟩ | ⟨h1, h2, h3, h5, h4⟩
 all_goals
  rw [h4]
  clear h4
  have HBa := zA hBa
  clear hBa
  go_enter Tryz.func128, Tryz.ntmps128
  go_wp2_with (go_at_call 70; refine (yD _ _ _ _).mono ?_; rintro e w' ⟨rfl, rfl⟩; rw [h1])
 ·go_ret
  exact ⟨rfl, HBa.out.2.2⟩
 ·go_ret
  exact ⟨rfl, HBa.out.2.2⟩
 all_goals
  refine (HI.out _ (HL.out.below HBa.out.2.2) h2).mono ?_
  rintro e w1 ⟨rfl, hb⟩
  have HB1 := zA (HBa.out.on hb)
  obtain ⟨c0, c1⟩ := HB1.out.c2 0 w.heap.size rfl rfl rfl rfl
  clear hb HBa
 ·have h3' : (errD 0 L != 0) = true := by simpa using h3
  clear h3
  go_wp2_with fail
  go_ret
  exact ⟨rfl, HB1.out.2.2⟩
 all_goals
  rw [h3]
  clear h3
  go_wp2_with fail
  go_ret
  exact ⟨rfl, HB1.out.2.2⟩
structure DD where
 v : Int
 L : List Int
 o : Option Addr
 c : Nat
def DensAt (w : World) (B : Addr) (Ds : List DD) : Prop := ∀ (q : Nat) (d : DD), Ds[q]? = some d →
 w.cell? (B.add (q * 2)) = some (.int .i64 d.v) ∧ w.cell? ⟨(B.add (q * 2)).block, (B.add (q * 2)).off + 1, none⟩ = some (.slice d.o d.L.length d.c) ∧ zH w d.o d.L ∧ d.L.length ≤ 9223372036854775807
theorem DensAt.below {w w' : World} {B : Addr} {Ds : List DD} (h : DensAt w B Ds) (hb : Below w.heap.size w w') : DensAt w' B Ds :=
 fun q d hq => have ⟨h1, h2, h3, h4⟩ := h q d hq; ⟨by rw [hb.cell (World.block_lt_of_cell? w _ h1)]; exact h1, by rw [hb.cell (World.block_lt_of_cell? w _ h2)]; exact h2, h3.below hb, h4⟩
def wrongE : List DD → Int
 | [] => 0
 | d :: r => if yZ d.v d.L = 0 then wrongE r else yZ d.v d.L
theorem wrongE_ways (d : DD) (r : List DD) : ((yZ d.v d.L != 0) = true ∧ wrongE (d :: r) = yZ d.v d.L) ∨ (yZ d.v d.L = 0 ∧ wrongE (d :: r) = wrongE r) := by
 rw [wrongE]
 by_cases h : yZ d.v d.L = 0
 ·right; simp [h]
 ·left; simp [h]
theorem denWrong_any (Ds : List DD) (B : Addr) (c : Nat) (w : World) (hD : DensAt w B Ds) (hlen : Ds.length ≤ 12) :
  Calls Tryz.prog 99 #[.slice (some B) Ds.length c] w fun e w' => e = .returned (.int .i64 (wrongE Ds)) ∧ Below w.heap.size w w' := by
 have HD := zA hD
 clear hD
 go_enter Tryz.func99, Tryz.ntmps99
 go_wp2_with fail
 go_loopw [8] (fun j wr => ∃ (q : Nat), q ≤ Ds.length ∧ j = .int .i64 q ∧ Hid (wrongE Ds = wrongE (Ds.drop q)) ∧ Hid (Below w.heap.size w wr)) (fun j _ => Ds.length - (intOf j).toNat)
 case atStart => exact ⟨0, Nat.zero_le _, rfl, by show _ = _; simp, Below.refl _ _⟩
 case round =>
  obtain ⟨q, hq, rfl, hE, HB⟩ := hrel
  by_cases hgo : q < Ds.length
  ·obtain ⟨d, hd⟩ : ∃ d, Ds[q]? = some d := ⟨Ds[q], by simp [hgo]⟩
   obtain ⟨c0, c1, h2, h3⟩ := HD.out.below HB.out q d hd
   have HI := zA h2
   clear h2
   have hE' := hE.out
   rw [drop_cons hd] at hE'
   have hp := wrongE_ways d (Ds.drop (q + 1))
   rw [← hE'] at hp
   clear hE hE' hd
   go_wp2_with fail
   have hBa := HB.out.alloc HB.out.size (.cells #[.int .i64 d.v, .slice d.o d.L.length d.c] 28)
   refine (checkD_any d.v d.L d.o d.c _ (HI.out.below ((Below.refl wr.heap.size wr).alloc (Nat.le_refl _) _)) h3).mono ?_
   rintro e w1 ⟨rfl, hb⟩
   have HB1 := zA (hBa.trans (hb.mono hBa.size))
   clear hBa hb c0 c1 HI
   rcases hp with ⟨h5, h6⟩ | ⟨h5, h6⟩
   ·have H6 := zA h6
    clear h6
    generalize yZ d.v d.L = E at *
    go_wp2_with fail
    go_ret
    exact ⟨by rw [H6.out]; rfl, HB1.out⟩
   ·have H6 := zA h6
    clear h6
    rw [h5]
    clear h5
    go_wp2_with fail
    exact ⟨⟨q + 1, by omega, by simp, H6, HB1⟩, by simp [intOf]; omega⟩
  ·have hE' := hE.out
   rw [List.drop_of_length_le (by omega)] at hE'
   have H6 := zA hE'
   clear hE hE'
   go_wp2_with fail
   go_ret
   exact ⟨by rw [H6.out]; rfl, HB.out⟩
theorem densAt_one (w : World) (v : Int) (L : List Int) (o : Option Addr) (c b : Nat) (T : TypeId) (hb : w.heap[b]? = some (.cells #[.int .i64 v, .slice o L.length c] T)) (hL : zH w o L) (hl : L.length ≤ 9223372036854775807) :
  DensAt w ⟨b, 0, none⟩ [⟨v, L, o, c⟩] := by
 intro q d hq
 match q, hq with
 | 0, hq =>
  simp at hq
  subst hq
  have c0 := cell_of_row w b 0 _ _ _ hb
  have c1 := cell_of_row w b 1 _ _ _ hb
  simp at c0 c1
  exact ⟨by simpa [Addr.add] using c0, by simpa [Addr.add] using c1, hL, hl⟩
 | q + 1, hq => simp at hq
theorem densAt_two (w : World) (v v' : Int) (L L' : List Int) (o o' : Option Addr) (c c' b : Nat) (T : TypeId) (hb : w.heap[b]? = some (.cells #[.int .i64 v, .slice o L.length c, .int .i64 v', .slice o' L'.length c'] T)) (hL : zH w o L) (hl : L.length ≤ 9223372036854775807)
  (hL' : zH w o' L') (hl' : L'.length ≤ 9223372036854775807) : DensAt w ⟨b, 0, none⟩ [⟨v, L, o, c⟩, ⟨v', L', o', c'⟩] := by
 intro q d hq
 have c0 := cell_of_row w b 0 _ _ _ hb
 have c1 := cell_of_row w b 1 _ _ _ hb
 have c2 := cell_of_row w b 2 _ _ _ hb
 have c3 := cell_of_row w b 3 _ _ _ hb
 simp at c0 c1 c2 c3
 match q, hq with
 | 0, hq =>
  simp at hq
  subst hq
  exact ⟨by simpa [Addr.add] using c0, by simpa [Addr.add] using c1, hL, hl⟩
 | 1, hq =>
  simp at hq
  subst hq
  exact ⟨by simpa [Addr.add] using c2, by simpa [Addr.add] using c3, hL', hl'⟩
 | q + 2, hq => simp at hq
theorem wrongE_one (d : DD) : wrongE [d] = yZ d.v d.L := by
 simp only [wrongE]
 split
 ·rename_i h; exact h.symm
 ·rfl
theorem denWrong1_any (v : Int) (L : List Int) (o : Option Addr) (c b : Nat) (T : TypeId) (w : World) (hb : w.heap[b]? = some (.cells #[.int .i64 v, .slice o L.length c] T)) (hL : zH w o L) (hlen : L.length ≤ 9223372036854775807) :
  Calls Tryz.prog 99 #[.slice (some ⟨b, 0, none⟩) 1 1] w fun e w' => e = .returned (.int .i64 (yZ v L)) ∧ Below w.heap.size w w' := by
 have h := denWrong_any [⟨v, L, o, c⟩] ⟨b, 0, none⟩ 1 w (densAt_one w v L o c b T hb hL hlen) (by simp)
 rw [wrongE_one] at h
 exact h
theorem denCheck_any (v : Int) (L : List Int) (o : Option Addr) (c : Nat) (w : World) (hL : zH w o L) (hlen : L.length ≤ 9223372036854775807) :
  Calls Tryz.prog 52 #[dn v o L.length c] w fun e w' => e = .returned (.int .i64 (yZ v L)) ∧ Below w.heap.size w w' := by
 have HB := zA (((zL.nil w).more (.cells #[.int .i64 v, .slice o L.length c] 28) (by simp)).more (.cells #[.int .i64 v, .slice o L.length c] 28) (by simp))
 have HL := zA hL
 clear hL
 go_enter Tryz.func52, Tryz.ntmps52
 go_wp2_with fail
 refine (denWrong1_any v L o c _ _ _ (HB.out.1 1 _ rfl) (HL.out.below HB.out.2.2) hlen).mono ?_
 rintro e w1 ⟨rfl, hb⟩
 have HB1 := zA (HB.out.on hb)
 clear hb HB
 go_wp2_with fail
 go_ret
 exact ⟨rfl, HB1.out.2.2⟩
def unfD (v : Int) (L : List Int) (id : Int) : Int := if yZ v L = 0 then (if wi id 1 9999 = true then 0 else 3) else yZ v L
theorem unfD_ways (v : Int) (L : List Int) (id : Int) : ((yZ v L != 0) = true ∧ unfD v L id = yZ v L) ∨ (yZ v L = 0 ∧ wi id 1 9999 = false ∧ unfD v L id = 3) ∨ (yZ v L = 0 ∧ wi id 1 9999 = true ∧ unfD v L id = 0) := by
 rw [unfD]
 by_cases h : yZ v L = 0
 ·right
  cases wi id 1 9999 <;> simp [h]
 ·left; simp [h]
theorem denUnfit_any (v : Int) (L : List Int) (o : Option Addr) (c : Nat) (id : Int) (w : World) (hL : zH w o L) (hlen : L.length ≤ 9223372036854775807) :
  Calls Tryz.prog 145 #[dn v o L.length c, .int .i64 id] w fun e w' => e = .returned (.int .i64 (unfD v L id)) ∧ Below w.heap.size w w' := by
 have HB := zA (((zL.nil w).more (.cells #[.int .i64 v, .slice o L.length c] 28) (by simp)).more (.cells #[.int .i64 v, .slice o L.length c] 28) (by simp))
 have HL := zA hL
 clear hL
 have hp := unfD_ways v L id
 go_enter Tryz.func145, Tryz.ntmps145
 go_wp2_with fail
 refine (denWrong1_any v L o c _ _ _ (HB.out.1 1 _ rfl) (HL.out.below HB.out.2.2) hlen).mono ?_
 rintro e w1 ⟨rfl, hb⟩
 have HB1 := zA (HB.out.on hb)
 clear hb HB
 rcases hp with ⟨h1, h2⟩ | ⟨h1, h2, h3⟩ | ⟨h1, h2, h3⟩
 ·have H2 := zA h2
  clear h2
  generalize yZ v L = E at *
  go_wp2_with fail
  go_ret
  exact ⟨by rw [H2.out]; rfl, HB1.out.2.2⟩
 all_goals
  have H3 := zA h3
  rw [h1]
  clear h1 h3
  go_wp2_with (go_at_call 171; refine (isId_any _ _).mono ?_; rintro e w' ⟨rfl, rfl⟩; rw [h2])
  go_ret
  exact ⟨by rw [H3.out]; rfl, HB1.out.2.2⟩
def xQ (L : List Int) (id : Int) : Bool := L.any fun x => x == id
theorem has1_any (x id : Int) (B : Nat) (w : World) (hc : w.cell? ⟨B, 0, none⟩ = some (.int .i64 id)) :
  Calls Tryz.prog 173 #[.int .i64 x, .pointer (some ⟨B, 0, none⟩)] w fun e w' => e = .returned (.bool (x == id)) ∧ w' = w := by
 go_enter Tryz.func173, Tryz.ntmps173
 go_wp2
 go_ret
 exact ⟨rfl, rfl⟩
theorem with1_any (x id : Int) (B : Nat) (w : World) (hc : w.cell? ⟨B, 0, none⟩ = some (.int .i64 id)) :
  Calls Tryz.prog 174 #[.int .i64 x, .pointer (some ⟨B, 0, none⟩)] w fun e w' => e = .returned (.bool (decide (id < x))) ∧ w' = w := by
 go_enter Tryz.func174, Tryz.ntmps174
 go_wp2
 go_ret
 exact ⟨rfl, rfl⟩
def idxF (L : List Int) (g : Int → Bool) : Int := if L.findIdx g < L.length then (L.findIdx g : Int) else -1
theorem findIdx_at {L : List Int} {g : Int → Bool} {q : Nat} {x : Int} (h : ∀ j y, j < q → L[j]? = some y → g y = false) (hx : L[q]? = some x) (hg : g x = true) : L.findIdx g = q := by
 obtain ⟨hlt, hx'⟩ := List.getElem?_eq_some_iff.1 hx
 rw [List.findIdx_eq hlt]
 refine ⟨by rw [hx']; exact hg, fun j hj => ?_⟩
 exact h j _ hj (by simp)
theorem findIdx_none {L : List Int} {g : Int → Bool} (h : ∀ j y, j < L.length → L[j]? = some y → g y = false) : L.findIdx g = L.length := by
 rw [List.findIdx_eq_length]
 intro x hx
 obtain ⟨j, hj⟩ := List.mem_iff_getElem?.1 hx
 exact h j x (List.getElem?_eq_some_iff.1 hj).1 hj
theorem indexDH_any (B : Nat) (id : Int) (L : List Int) (o : Option Addr) (cap : Nat) (w : World) (hL : zH w o L) (hlen : L.length ≤ 9223372036854775807) (hc : w.cell? ⟨B, 0, none⟩ = some (.int .i64 id)) :
  Calls Tryz.prog 193 #[.slice o L.length cap, .func (.func 173) #[] #[.pointer (some ⟨B, 0, none⟩)]] w fun e w' => e = .returned (.int .i64 (idxF L (fun x : Int => x == id))) ∧ w' = w := by
 have HL := zA hL
 have HF := zA (fun (x : Int) (W : World) h => has1_any x id B W h)
 clear hL
 go_enter Tryz.func193, Tryz.ntmps193
 go_wp2_with fail
 go_loopw [8] (fun j wr => ∃ (q : Nat), q ≤ L.length ∧ j = .int .i64 q ∧ Hid (∀ j y, j < q → L[j]? = some y → (fun x : Int => x == id) y = false) ∧ wr = w) (fun j _ => L.length - (intOf j).toNat)
 case atStart => exact ⟨0, Nat.zero_le _, rfl, fun j y h => by omega, rfl⟩
 case round =>
  obtain ⟨q, hq, rfl, hE, hw⟩ := hrel
  subst hw
  by_cases hgo : q < L.length
  ·obtain ⟨x, hx⟩ : ∃ x, L[q]? = some x := ⟨L[q], by simp [hgo]⟩
   obtain ⟨A, rfl, c0⟩ := HL.out q x hx
   have HX := zA hx
   clear hx
   go_wp2_with fail
   refine (HF.out x _ hc).mono ?_
   rintro e w1 ⟨rfl, rfl⟩
   cases hg : (fun x : Int => x == id) x
   ·have HN : Hid (∀ j y, j < q + 1 → L[j]? = some y → (fun x : Int => x == id) y = false) := fun j y hj hy => by
     rcases Nat.lt_or_ge j q with h | h
     ·exact hE.out j y h hy
     ·obtain rfl : j = q := by omega
      rw [HX.out] at hy
      cases hy
      exact hg
    go_wp2_with fail
    exact ⟨⟨q + 1, by omega, by simp, HN, by first | rfl | trivial⟩, by simp [intOf]; omega⟩
   ·have HR : Hid (idxF L (fun x : Int => x == id) = q) := by
     show _ = _
     have h := findIdx_at hE.out HX.out hg
     rw [idxF, h, if_pos hgo]
    go_wp2_with fail
    go_ret
    exact ⟨by rw [HR.out]; rfl, rfl⟩
  ·have HR : Hid (idxF L (fun x : Int => x == id) = -1) := by
    show _ = _
    have h := findIdx_none (L := L) (g := fun x : Int => x == id) (fun j y hj hy => hE.out j y (by omega) hy)
    rw [idxF, h, if_neg (by omega)]
   go_wp2_with fail
   go_ret
   exact ⟨by rw [HR.out]; rfl, rfl⟩
theorem firstH_any (B : Nat) (id v : Int) (L : List Int) (o : Option Addr) (cap : Nat) (w : World) (hL : zH w o L) (hlen : L.length ≤ 9223372036854775807) (hc : w.cell? ⟨B, 0, none⟩ = some (.int .i64 id)) :
  Calls Tryz.prog 172 #[dn v o L.length cap, .func (.func 173) #[] #[.pointer (some ⟨B, 0, none⟩)]] w fun e w' => e = .returned (.int .i64 (L.findIdx (fun x : Int => x == id) : Int)) ∧ Below w.heap.size w w' := by
 have HB := zA ((zL.nil w).more (.cells #[.int .i64 v, .slice o L.length cap] 164) (by simp))
 have HI := zA (fun W (h1 : zH W o L) (h2 : W.cell? ⟨B, 0, none⟩ = some (.int .i64 id)) => indexDH_any B id L o cap W h1 hlen h2)
 have HL := zA (hL.below HB.out.2.2)
 have HC := zA (show (w.alloc (.cells #[.int .i64 v, .slice o L.length cap] 164)).cell? ⟨B, 0, none⟩ = some (.int .i64 id) by rw [HB.out.2.2.cell (World.block_lt_of_cell? w _ hc)]; exact hc)
 have hp : (L.findIdx (fun x : Int => x == id) < L.length ∧ idxF L (fun x : Int => x == id) = (L.findIdx (fun x : Int => x == id) : Int)) ∨ (L.findIdx (fun x : Int => x == id) = L.length ∧ idxF L (fun x : Int => x == id) = -1) := by
  have := List.findIdx_le_length (xs := L) (p := fun x : Int => x == id)
  rw [idxF]
  by_cases h : L.findIdx (fun x : Int => x == id) < L.length
  ·left; simp [h]
  ·right; exact ⟨by omega, by rw [if_neg h]⟩
 clear hL hc
 generalize L.findIdx (fun x : Int => x == id) = n at hp ⊢
 go_enter Tryz.func172, Tryz.ntmps172
 go_wp2_with fail
 refine (HI.out _ HL.out HC.out).mono ?_
 rintro e w1 ⟨rfl, rfl⟩
 rcases hp with ⟨h1, h2⟩ | ⟨h1, h2⟩
 ·rw [h2]
  clear h2
  go_wp2_with fail
  go_ret
  exact ⟨rfl, HB.out.2.2⟩
 ·rw [h2]
  clear h2
  subst h1
  go_wp2_with fail
  go_ret
  exact ⟨rfl, HB.out.2.2⟩
theorem indexDW_any (B : Nat) (id : Int) (L : List Int) (o : Option Addr) (cap : Nat) (w : World) (hL : zH w o L) (hlen : L.length ≤ 9223372036854775807) (hc : w.cell? ⟨B, 0, none⟩ = some (.int .i64 id)) :
  Calls Tryz.prog 193 #[.slice o L.length cap, .func (.func 174) #[] #[.pointer (some ⟨B, 0, none⟩)]] w fun e w' => e = .returned (.int .i64 (idxF L (fun x : Int => decide (id < x)))) ∧ w' = w := by
 have HL := zA hL
 have HF := zA (fun (x : Int) (W : World) h => with1_any x id B W h)
 clear hL
 go_enter Tryz.func193, Tryz.ntmps193
 go_wp2_with fail
 go_loopw [8] (fun j wr => ∃ (q : Nat), q ≤ L.length ∧ j = .int .i64 q ∧ Hid (∀ j y, j < q → L[j]? = some y → (fun x : Int => decide (id < x)) y = false) ∧ wr = w) (fun j _ => L.length - (intOf j).toNat)
 case atStart => exact ⟨0, Nat.zero_le _, rfl, fun j y h => by omega, rfl⟩
 case round =>
  obtain ⟨q, hq, rfl, hE, hw⟩ := hrel
  subst hw
  by_cases hgo : q < L.length
  ·obtain ⟨x, hx⟩ : ∃ x, L[q]? = some x := ⟨L[q], by simp [hgo]⟩
   obtain ⟨A, rfl, c0⟩ := HL.out q x hx
   have HX := zA hx
   clear hx
   go_wp2_with fail
   refine (HF.out x _ hc).mono ?_
   rintro e w1 ⟨rfl, rfl⟩
   cases hg : (fun x : Int => decide (id < x)) x
   ·have HN : Hid (∀ j y, j < q + 1 → L[j]? = some y → (fun x : Int => decide (id < x)) y = false) := fun j y hj hy => by
     rcases Nat.lt_or_ge j q with h | h
     ·exact hE.out j y h hy
     ·obtain rfl : j = q := by omega
      rw [HX.out] at hy
      cases hy
      exact hg
    go_wp2_with fail
    exact ⟨⟨q + 1, by omega, by simp, HN, by first | rfl | trivial⟩, by simp [intOf]; omega⟩
   ·have HR : Hid (idxF L (fun x : Int => decide (id < x)) = q) := by
     show _ = _
     have h := findIdx_at hE.out HX.out hg
     rw [idxF, h, if_pos hgo]
    go_wp2_with fail
    go_ret
    exact ⟨by rw [HR.out]; rfl, rfl⟩
  ·have HR : Hid (idxF L (fun x : Int => decide (id < x)) = -1) := by
    show _ = _
    have h := findIdx_none (L := L) (g := fun x : Int => decide (id < x)) (fun j y hj hy => hE.out j y (by omega) hy)
    rw [idxF, h, if_neg (by omega)]
   go_wp2_with fail
   go_ret
   exact ⟨by rw [HR.out]; rfl, rfl⟩
theorem firstW_any (B : Nat) (id v : Int) (L : List Int) (o : Option Addr) (cap : Nat) (w : World) (hL : zH w o L) (hlen : L.length ≤ 9223372036854775807) (hc : w.cell? ⟨B, 0, none⟩ = some (.int .i64 id)) :
  Calls Tryz.prog 172 #[dn v o L.length cap, .func (.func 174) #[] #[.pointer (some ⟨B, 0, none⟩)]] w fun e w' => e = .returned (.int .i64 (L.findIdx (fun x : Int => decide (id < x)) : Int)) ∧ Below w.heap.size w w' := by
 have HB := zA ((zL.nil w).more (.cells #[.int .i64 v, .slice o L.length cap] 164) (by simp))
 have HI := zA (fun W (h1 : zH W o L) (h2 : W.cell? ⟨B, 0, none⟩ = some (.int .i64 id)) => indexDW_any B id L o cap W h1 hlen h2)
 have HL := zA (hL.below HB.out.2.2)
 have HC := zA (show (w.alloc (.cells #[.int .i64 v, .slice o L.length cap] 164)).cell? ⟨B, 0, none⟩ = some (.int .i64 id) by rw [HB.out.2.2.cell (World.block_lt_of_cell? w _ hc)]; exact hc)
 have hp : (L.findIdx (fun x : Int => decide (id < x)) < L.length ∧ idxF L (fun x : Int => decide (id < x)) = (L.findIdx (fun x : Int => decide (id < x)) : Int)) ∨ (L.findIdx (fun x : Int => decide (id < x)) = L.length ∧ idxF L (fun x : Int => decide (id < x)) = -1) := by
  have := List.findIdx_le_length (xs := L) (p := fun x : Int => decide (id < x))
  rw [idxF]
  by_cases h : L.findIdx (fun x : Int => decide (id < x)) < L.length
  ·left; simp [h]
  ·right; exact ⟨by omega, by rw [if_neg h]⟩
 clear hL hc
 generalize L.findIdx (fun x : Int => decide (id < x)) = n at hp ⊢
 go_enter Tryz.func172, Tryz.ntmps172
 go_wp2_with fail
 refine (HI.out _ HL.out HC.out).mono ?_
 rintro e w1 ⟨rfl, rfl⟩
 rcases hp with ⟨h1, h2⟩ | ⟨h1, h2⟩
 ·rw [h2]
  clear h2
  go_wp2_with fail
  go_ret
  exact ⟨rfl, HB.out.2.2⟩
 ·rw [h2]
  clear h2
  subst h1
  go_wp2_with fail
  go_ret
  exact ⟨rfl, HB.out.2.2⟩
theorem hasI_idx (L : List Int) (id : Int) : decide ((L.findIdx fun x => x == id) < L.length) = xQ L id := by
 rw [xQ]
 cases h : L.any fun x => x == id
 ·rw [List.any_eq_false] at h
  rw [(List.findIdx_eq_length).2 (fun x hx => by simpa using h x hx)]
  simp
 ·rw [List.any_eq_true] at h
  obtain ⟨x, hx, he⟩ := h
  simpa using List.findIdx_lt_length_of_exists (xs := L) (p := fun x => x == id) ⟨x, hx, he⟩
theorem denHas_any (v id : Int) (L : List Int) (o : Option Addr) (cap : Nat) (w : World) (hL : zH w o L) (hlen : L.length ≤ 9223372036854775807) :
  Calls Tryz.prog 146 #[dn v o L.length cap, .int .i64 id] w fun e w' => e = .returned (.bool (xQ L id)) ∧ Below w.heap.size w w' := by
 have HB := zA (((zL.nil w).more (.cells #[.int .i64 v, .slice o L.length cap] 164) (by simp)).more (.cells #[.int .i64 id] 3) (by simp))
 have HI := zA (fun W (h1 : zH W o L) (h2 : W.cell? ⟨w.heap.size + 1, 0, none⟩ = some (.int .i64 id)) => firstH_any (w.heap.size + 1) id v L o cap W h1 hlen h2)
 have HL := zA (hL.below HB.out.2.2)
 have HR := zA (hasI_idx L id)
 clear hL
 go_enter Tryz.func146, Tryz.ntmps146
 go_wp2_with fail
 refine (HI.out _ HL.out (HB.out.cell 1 0 _ _ _ _ rfl rfl rfl)).mono ?_
 rintro e w1 ⟨rfl, hb⟩
 have HB1 := zA (HB.out.on hb)
 obtain ⟨c0, c1⟩ := HB1.out.c2 0 w.heap.size rfl rfl rfl rfl
 clear hb HB
 generalize (L.findIdx fun x => x == id) = n at *
 go_wp2_with fail
 go_ret
 refine ⟨?_, HB1.out.2.2⟩
 rw [← HR.out]
 simp
def zK (B : Nat) (v : Value) : Prop := ∀ k, v.ownBlock = some k → B ≤ k
theorem cloneP_any (L : List TP) (o : Option Addr) (cap : Nat) (w : World) (hL : zI w o L) (hlen : L.length ≤ 60) :
  Calls Tryz.prog 73 #[.slice o L.length cap] w fun e w' => (∃ v, e = .returned v ∧ zR w' v L ∧ zK w.heap.size v) ∧ Below w.heap.size w w' := by
 obtain ⟨i0, hi, hz0, hz1, hz2⟩ := info_parts info32
 have q : ∀ (w : World) (a : Option Addr) (n c n' c' : Nat), (binOp .eql 23 (.slice a n c) (.slice none n' c')).run Tryz.prog w = .ok (.bool a.isNone) w := fun w a n c n' c' => Lib.run_eql_slice_nil w _ _ a n c n' c' Tryz.underlying23
 cases o with
 | none =>
  have hL0 : L = [] := by
   cases L with
   | nil => rfl
   | cons x L => obtain ⟨b, hb, -⟩ := hL 0 x rfl; cases hb
  subst hL0
  go_enter Tryz.func73, Tryz.ntmps73
  go_wp2
  go_ret
  exact ⟨⟨_, rfl, ⟨none, 0, rfl, fun i p hi => by simp at hi, by simp, fun _ => rfl⟩, fun k hk => by simp [Value.ownBlock] at hk⟩, Below.refl _ _⟩
 | some A =>
  have HN := zA (taps_cells (hL.below ((Below.refl w.heap.size w).alloc (Nat.le_refl _) (.cells #[] 79))))
  have HO := zA (World.ownsRow_made (base := w.heap.size) (e := 79) (size := 5) w #[] 0 (Nat.le_refl _) (by decide) rfl)
  clear hL
  go_enter Tryz.func73, Tryz.ntmps73
  go_wp2_with (at_builtin; refine wpList_append_own _ rfl _ _ 23 rfl w.heap.size 79 i0 _ 5 40 Tryz.underlying23 hi hz0 hz1 hz2 rfl (by decide) _ 0 _ rfl HO.out A L.length cap (yA L) rfl (cellsP_len L) HN.out (oneP L) (by unfold maxLen; omega) (by omega) (by simp) ?_; intro v1 w1 hown1 hgrow1 _)
  go_ret
  exact ⟨⟨_, rfl, tapsV_own hown1, fun k hk => (hown1.lt k hk).1⟩, ((Below.refl w.heap.size w).alloc (Nat.le_refl _) _).grown hgrow1 (by simp) (fun k hk => (HO.out.lt k hk).1)⟩
theorem cloneK_any (L : List TK) (o : Option Addr) (cap : Nat) (w : World) (hL : zV w o L) (hlen : L.length ≤ 60) :
  Calls Tryz.prog 75 #[.slice o L.length cap] w fun e w' => (∃ v, e = .returned v ∧ yJ w' v L ∧ zK w.heap.size v) ∧ Below w.heap.size w w' := by
 obtain ⟨i0, hi, hz0, hz1, hz2⟩ := info_parts info23
 have q : ∀ (w : World) (a : Option Addr) (n c n' c' : Nat), (binOp .eql 22 (.slice a n c) (.slice none n' c')).run Tryz.prog w = .ok (.bool a.isNone) w := fun w a n c n' c' => Lib.run_eql_slice_nil w _ _ a n c n' c' Tryz.underlying22
 cases o with
 | none =>
  have hL0 : L = [] := by
   cases L with
   | nil => rfl
   | cons x L => obtain ⟨b, hb, -⟩ := hL 0 x rfl; cases hb
  subst hL0
  go_enter Tryz.func75, Tryz.ntmps75
  go_wp2
  go_ret
  exact ⟨⟨_, rfl, ⟨none, 0, rfl, fun i p hi => by simp at hi, by simp, fun _ => rfl⟩, fun k hk => by simp [Value.ownBlock] at hk⟩, Below.refl _ _⟩
 | some A =>
  have HN := zA (tiks_cells (hL.below ((Below.refl w.heap.size w).alloc (Nat.le_refl _) (.cells #[] 34))))
  have HO := zA (World.ownsRow_made (base := w.heap.size) (e := 34) (size := 6) w #[] 0 (Nat.le_refl _) (by decide) rfl)
  clear hL
  go_enter Tryz.func75, Tryz.ntmps75
  go_wp2_with (at_builtin; refine wpList_append_own _ rfl _ _ 22 rfl w.heap.size 34 i0 _ 6 48 Tryz.underlying22 hi hz0 hz1 hz2 rfl (by decide) _ 0 _ rfl HO.out A L.length cap (qP L) rfl (cellsK_len L) HN.out (oneK L) (by unfold maxLen; omega) (by omega) (by simp) ?_; intro v1 w1 hown1 hgrow1 _)
  go_ret
  exact ⟨⟨_, rfl, tiksV_own hown1, fun k hk => (hown1.lt k hk).1⟩, ((Below.refl w.heap.size w).alloc (Nat.le_refl _) _).grown hgrow1 (by simp) (fun k hk => (HO.out.lt k hk).1)⟩
theorem jL (L : List Int) (o : Option Addr) (cap : Nat) (w : World) (hL : zH w o L) (hlen : L.length ≤ 60) :
  Calls Tryz.prog 76 #[.slice o L.length cap] w fun e w' => (∃ v, e = .returned v ∧ zP w' v L ∧ zK w.heap.size v) ∧ Below w.heap.size w w' := by
 obtain ⟨i0, hi, hz0, hz1, hz2⟩ := info_parts info3
 have q : ∀ (w : World) (a : Option Addr) (n c n' c' : Nat), (binOp .eql 24 (.slice a n c) (.slice none n' c')).run Tryz.prog w = .ok (.bool a.isNone) w := fun w a n c n' c' => Lib.run_eql_slice_nil w _ _ a n c n' c' Tryz.underlying24
 cases o with
 | none =>
  have hL0 : L = [] := by
   cases L with
   | nil => rfl
   | cons x L => obtain ⟨b, hb, -⟩ := hL 0 x rfl; cases hb
  subst hL0
  go_enter Tryz.func76, Tryz.ntmps76
  go_wp2
  go_ret
  exact ⟨⟨_, rfl, ⟨none, 0, rfl, fun i p hi => by simp at hi, by simp, fun _ => rfl⟩, fun k hk => by simp [Value.ownBlock] at hk⟩, Below.refl _ _⟩
 | some A =>
  have HN := zA (ints_cells (hL.below ((Below.refl w.heap.size w).alloc (Nat.le_refl _) (.cells #[] 3))))
  have HO := zA (World.ownsRow_made (base := w.heap.size) (e := 3) (size := 1) w #[] 0 (Nat.le_refl _) (by decide) rfl)
  clear hL
  go_enter Tryz.func76, Tryz.ntmps76
  go_wp2_with (at_builtin; refine wpList_append_own _ rfl _ _ 24 rfl w.heap.size 3 i0 _ 1 8 Tryz.underlying24 hi hz0 hz1 hz2 rfl (by decide) _ 0 _ rfl HO.out A L.length cap (qJ L) rfl (cellsV_len L) HN.out (oneV L) (by unfold maxLen; omega) (by omega) (by simp) ?_; intro v1 w1 hown1 hgrow1 _)
  go_ret
  exact ⟨⟨_, rfl, intsV_own hown1, fun k hk => (hown1.lt k hk).1⟩, ((Below.refl w.heap.size w).alloc (Nat.le_refl _) _).grown hgrow1 (by simp) (fun k hk => (HO.out.lt k hk).1)⟩
theorem growP_any (n : Nat) (w : World) (hn : n ≤ 100) :
  Calls Tryz.prog 170 #[.slice none 0 0, .int .i64 (n : Int)] w fun e w' => (∃ v, e = .returned v ∧ w'.ownsRow w.heap.size 79 5 v 0 []) ∧ Below w.heap.size w w' := by
 obtain ⟨i0, hi, hz0, hz1, hz2⟩ := info_parts info32
 by_cases h0 : 0 < n
 ·have hr := Lib.run_append_nil_zeros (P := Tryz.prog) w 23 3 23 79 i0 _ .i64 .i64 Tryz.underlying23 Tryz.underlying3 hi hz0 n h0 (by omega) (by omega) (by rw [hz2]; omega)
  have hge := grownCap_ge w n 0 79
  have hmx : grownCap w n 0 79 ≤ maxLen := grownCap_le_maxLen w n 0 79 (by unfold maxLen; omega)
  generalize grownCap w n 0 79 = c at *
  have HO := zA (World.ownsRow_made (base := w.heap.size) (e := 79) (size := 5) w.drew (Builtin.zeroCells (Value.cells (.agg #[.int .i64 0, .int .i64 0, .int .i64 0, .int .i64 0, .int .i64 0])) n ++ Builtin.zeroCells (Value.cells (.agg #[.int .i64 0, .int .i64 0, .int .i64 0, .int .i64 0, .int .i64 0])) (c - n)) c (Nat.le_refl _) hmx (by
   rw [Array.size_append, size_zeroCells, size_zeroCells]
   simp only [Value.cells]
   simp
   omega))
  have HR := zA hr
  have hc0 : 0 ≤ c := Nat.zero_le _
  have hc1 : c ≤ 9223372036854775807 := hmx
  have h1 : ¬ ((n : Int) < 0) := by omega
  have h2 : (0 : Int) < (n : Int) := by omega
  clear hr hge hmx hz0 hz1 hz2 hi
  go_enter Tryz.func170, Tryz.ntmps170
  go_wp2_with (at_builtin; refine Lib.wpList_append_run _ rfl _ _ 23 3 rfl _ _ rfl rfl _ _ HR.out ?_)
  go_ret
  exact ⟨⟨_, rfl, HO.out⟩, (Below.refl w.heap.size w).drew.alloc (by simp) _⟩
 ·obtain rfl : n = 0 := by omega
  go_enter Tryz.func170, Tryz.ntmps170
  go_wp2
  go_ret
  exact ⟨⟨_, rfl, World.ownsRow_nil _ _ _ _⟩, Below.refl _ _⟩
theorem growK_any (n : Nat) (w : World) (hn : n ≤ 100) :
  Calls Tryz.prog 185 #[.slice none 0 0, .int .i64 (n : Int)] w fun e w' => (∃ v, e = .returned v ∧ w'.ownsRow w.heap.size 34 6 v 0 []) ∧ Below w.heap.size w w' := by
 obtain ⟨i0, hi, hz0, hz1, hz2⟩ := info_parts info23
 by_cases h0 : 0 < n
 ·have hr := Lib.run_append_nil_zeros (P := Tryz.prog) w 22 3 22 34 i0 _ .i64 .i64 Tryz.underlying22 Tryz.underlying3 hi hz0 n h0 (by omega) (by omega) (by rw [hz2]; omega)
  have hge := grownCap_ge w n 0 34
  have hmx : grownCap w n 0 34 ≤ maxLen := grownCap_le_maxLen w n 0 34 (by unfold maxLen; omega)
  generalize grownCap w n 0 34 = c at *
  have HO := zA (World.ownsRow_made (base := w.heap.size) (e := 34) (size := 6) w.drew (Builtin.zeroCells (Value.cells (.agg #[.int .i64 0, .int .i64 0, .int .i64 0, .int .i64 0, .int .i64 0, .int .i64 0])) n ++ Builtin.zeroCells (Value.cells (.agg #[.int .i64 0, .int .i64 0, .int .i64 0, .int .i64 0, .int .i64 0, .int .i64 0])) (c - n)) c (Nat.le_refl _) hmx (by
   rw [Array.size_append, size_zeroCells, size_zeroCells]
   simp only [Value.cells]
   simp
   omega))
  have HR := zA hr
  have hc0 : 0 ≤ c := Nat.zero_le _
  have hc1 : c ≤ 9223372036854775807 := hmx
  have h1 : ¬ ((n : Int) < 0) := by omega
  have h2 : (0 : Int) < (n : Int) := by omega
  clear hr hge hmx hz0 hz1 hz2 hi
  go_enter Tryz.func185, Tryz.ntmps185
  go_wp2_with (at_builtin; refine Lib.wpList_append_run _ rfl _ _ 22 3 rfl _ _ rfl rfl _ _ HR.out ?_)
  go_ret
  exact ⟨⟨_, rfl, HO.out⟩, (Below.refl w.heap.size w).drew.alloc (by simp) _⟩
 ·obtain rfl : n = 0 := by omega
  go_enter Tryz.func185, Tryz.ntmps185
  go_wp2
  go_ret
  exact ⟨⟨_, rfl, World.ownsRow_nil _ _ _ _⟩, Below.refl _ _⟩
theorem growV_any (n : Nat) (w : World) (hn : n ≤ 100) :
  Calls Tryz.prog 194 #[.slice none 0 0, .int .i64 (n : Int)] w fun e w' => (∃ v, e = .returned v ∧ w'.ownsRow w.heap.size 3 1 v 0 []) ∧ Below w.heap.size w w' := by
 obtain ⟨i0, hi, hz0, hz1, hz2⟩ := info_parts info3
 by_cases h0 : 0 < n
 ·have hr := Lib.run_append_nil_zeros (P := Tryz.prog) w 24 3 24 3 i0 _ .i64 .i64 Tryz.underlying24 Tryz.underlying3 hi hz0 n h0 (by omega) (by omega) (by rw [hz2]; omega)
  have hge := grownCap_ge w n 0 3
  have hmx : grownCap w n 0 3 ≤ maxLen := grownCap_le_maxLen w n 0 3 (by unfold maxLen; omega)
  generalize grownCap w n 0 3 = c at *
  have HO := zA (World.ownsRow_made (base := w.heap.size) (e := 3) (size := 1) w.drew (Builtin.zeroCells (Value.cells (.int .i64 0)) n ++ Builtin.zeroCells (Value.cells (.int .i64 0)) (c - n)) c (Nat.le_refl _) hmx (by
   rw [Array.size_append, size_zeroCells, size_zeroCells]
   simp only [Value.cells]
   simp
   omega))
  have HR := zA hr
  have hc0 : 0 ≤ c := Nat.zero_le _
  have hc1 : c ≤ 9223372036854775807 := hmx
  have h1 : ¬ ((n : Int) < 0) := by omega
  have h2 : (0 : Int) < (n : Int) := by omega
  clear hr hge hmx hz0 hz1 hz2 hi
  go_enter Tryz.func194, Tryz.ntmps194
  go_wp2_with (at_builtin; refine Lib.wpList_append_run _ rfl _ _ 24 3 rfl _ _ rfl rfl _ _ HR.out ?_)
  go_ret
  exact ⟨⟨_, rfl, HO.out⟩, (Below.refl w.heap.size w).drew.alloc (by simp) _⟩
 ·obtain rfl : n = 0 := by omega
  go_enter Tryz.func194, Tryz.ntmps194
  go_wp2
  go_ret
  exact ⟨⟨_, rfl, World.ownsRow_nil _ _ _ _⟩, Below.refl _ _⟩
def xO {α : Type} (Ps : List (Option Addr × List α × Nat)) : Nat := (Ps.flatMap fun x => x.2.1).length
theorem lenS_take {α : Type} (Ps : List (Option Addr × List α × Nat)) (q : Nat) (o : Option Addr) (L : List α) (cap : Nat) (h : Ps[q]? = some (o, L, cap)) : xO (Ps.take (q + 1)) = xO (Ps.take q) + L.length := by
 rw [xO, xO, List.take_add_one, h]
 simp
theorem flat_take {α : Type} (Ps : List (Option Addr × List α × Nat)) (q : Nat) (o : Option Addr) (L : List α) (cap : Nat) (h : Ps[q]? = some (o, L, cap)) :
  ((Ps.take (q + 1)).flatMap fun x => x.2.1) = ((Ps.take q).flatMap fun x => x.2.1) ++ L := by
 rw [List.take_add_one, h]
 simp
theorem lenS_le {α : Type} (Ps : List (Option Addr × List α × Nat)) (q : Nat) : xO (Ps.take q) ≤ xO Ps := by
 have : Ps = Ps.take q ++ Ps.drop q := (List.take_append_drop q Ps).symm
 conv => rhs; rw [this]
 unfold xO
 rw [List.flatMap_append, List.length_append]
 omega
def jG (w : World) (B : Addr) (Ps : List (Option Addr × List TP × Nat)) : Prop :=
 ∀ q o L cap, Ps[q]? = some (o, L, cap) → w.cell? (B.add q) = some (.slice o L.length cap) ∧ zI w o L ∧ (o = none → cap = 0)
theorem jG.below {w w' : World} {B : Addr} {Ps : List (Option Addr × List TP × Nat)} (h : jG w B Ps) (hb : Below w.heap.size w w') : jG w' B Ps :=
 fun q o L cap hq => have ⟨h1, h2, h3⟩ := h q o L cap hq; ⟨by rw [hb.cell (World.block_lt_of_cell? w _ h1)]; exact h1, h2.below hb, h3⟩
theorem concatP_any (Ps : List (Option Addr × List TP × Nat)) (B : Addr) (c : Nat) (w : World) (hP : jG w B Ps) (hlen : Ps.length ≤ 3) (hsum : xO Ps ≤ 100) :
  Calls Tryz.prog 142 #[.slice (some B) Ps.length c] w fun e w' => (∃ v, e = .returned v ∧ zR w' v (Ps.flatMap fun x => x.2.1) ∧ zK w.heap.size v) ∧ Below w.heap.size w w' := by
 obtain ⟨i0, hi, hz0, hz1, hz2⟩ := info_parts info32
 have HP := zA hP
 have HS := zA (fun q => lenS_le Ps q)
 clear hP
 go_enter Tryz.func142, Tryz.ntmps142
 go_wp2_with fail
 go_loopw [3, 11] (fun s j wr => ∃ (q : Nat), q ≤ Ps.length ∧ j = .int .i64 q ∧ s = .int .i64 (xO (Ps.take q) : Int) ∧ wr = w) (fun _ j _ => Ps.length - (intOf j).toNat)
 case atStart => exact ⟨0, Nat.zero_le _, rfl, by simp [xO], rfl⟩
 case round =>
  obtain ⟨q, hq, rfl, rfl, hw⟩ := hrel
  obtain rfl := hw.symm
  clear hw
  have hb1 := HS.out q
  by_cases hgo : q < Ps.length
  ·obtain ⟨⟨o, L, cap⟩, hp⟩ : ∃ p, Ps[q]? = some p := ⟨Ps[q], by simp [hgo]⟩
   obtain ⟨c0, -, -⟩ := HP.out q o L cap hp
   have hb2 := HS.out (q + 1)
   have HL := zA (lenS_take Ps q o L cap hp)
   have hb3 : xO (Ps.take q) + L.length ≤ 100 := by rw [← HL.out]; omega
   clear hp hb2
   generalize xO (Ps.take q) = s at *
   go_wp2_with fail
   exact ⟨⟨q + 1, by omega, by simp, by rw [HL.out]; simp, by first | trivial | rfl⟩, by simp [intOf]; omega⟩
  ·obtain rfl : q = Ps.length := by omega
   clear hgo
   generalize xO (Ps.take Ps.length) = s at *
   have hs : s ≤ 100 := by omega
   go_wp2_with fail
   refine (growP_any s _ hs).mono ?_
   rintro e w1 ⟨⟨v, rfl, hown⟩, hbw⟩
   have HO := zA hown
   have HB := zA hbw
   have HP1 := zA (HP.out.below hbw)
   clear hown hbw
   go_wp2_with fail
   go_loopw [6, 27] (fun v j wr => ∃ (q : Nat), q ≤ Ps.length ∧ j = .int .i64 q ∧ wr.ownsRow w.heap.size 79 5 v (xO (Ps.take q)) (yA ((Ps.take q).flatMap fun x => x.2.1)) ∧ Below w.heap.size w wr) (fun _ j _ => Ps.length - (intOf j).toNat)
   case atStart => exact ⟨0, Nat.zero_le _, rfl, HO.out, HB.out⟩
   case round =>
    obtain ⟨q, hq2, rfl, hown, hbr⟩ := hrel
    by_cases hgo : q < Ps.length
    ·obtain ⟨⟨o, L, cap⟩, hp⟩ : ∃ p, Ps[q]? = some p := ⟨Ps[q], by simp [hgo]⟩
     obtain ⟨c0, hAt, hcap⟩ := (HP.out.below hbr) q o L cap hp
     have hb2 := HS.out (q + 1)
     have HL := zA (lenS_take Ps q o L cap hp)
     have hb3 : xO (Ps.take q) + L.length ≤ 100 := by rw [← HL.out]; omega
     have HF := zA (flat_take Ps q o L cap hp)
     have hsz := hbr.size
     clear hp hb2
     generalize xO (Ps.take q) = s2 at *
     generalize (Ps.take q).flatMap (fun x => x.2.1) = F at *
     cases o with
     | none =>
      have hL0 : L = [] := by
       cases L with
       | nil => rfl
       | cons x L => obtain ⟨b, hb, -⟩ := hAt 0 x rfl; cases hb
      have hc0 := hcap rfl
      subst hL0 hc0
      clear hAt hcap
      go_wp2_with (at_builtin; refine wpList_append_own_none rfl _ _ 23 rfl w.heap.size 79 i0 5 Tryz.underlying23 hi _ s2 _ rfl hown rfl ?_)
      exact ⟨⟨q + 1, by omega, by simp, by rw [HL.out, HF.out, List.append_nil]; exact hown, hbr⟩, by simp [intOf]; omega⟩
     | some A =>
      have HN := zA (taps_cells hAt)
      clear hAt hcap
      go_wp2_with (at_builtin; refine wpList_append_own _ rfl _ _ 23 rfl w.heap.size 79 i0 _ 5 40 Tryz.underlying23 hi hz0 hz1 hz2 rfl (by decide) _ s2 _ rfl hown A L.length cap (yA L) rfl (cellsP_len L) HN.out (oneP L) (by unfold maxLen; omega) (by omega) hsz ?_; intro v1 w2 hown1 hgrow1 _)
      exact ⟨⟨q + 1, by omega, by simp, by rw [HL.out, HF.out, cellsP_app]; exact hown1, hbr.grown hgrow1 hsz (fun k hk => (hown.lt k hk).1)⟩, by simp [intOf]; omega⟩
    ·obtain rfl : q = Ps.length := by omega
     rw [List.take_length] at hown
     have HV := zA (And.intro (tapsV_own hown) (show zK w.heap.size _ from fun k hk => (hown.lt k hk).1))
     clear hown
     go_wp2_with fail
     go_ret
     exact ⟨⟨_, rfl, HV.out.1, HV.out.2⟩, hbr⟩
def PiecesK (w : World) (B : Addr) (Ps : List (Option Addr × List TK × Nat)) : Prop :=
 ∀ q o L cap, Ps[q]? = some (o, L, cap) → w.cell? (B.add q) = some (.slice o L.length cap) ∧ zV w o L ∧ (o = none → cap = 0)
theorem PiecesK.below {w w' : World} {B : Addr} {Ps : List (Option Addr × List TK × Nat)} (h : PiecesK w B Ps) (hb : Below w.heap.size w w') : PiecesK w' B Ps :=
 fun q o L cap hq => have ⟨h1, h2, h3⟩ := h q o L cap hq; ⟨by rw [hb.cell (World.block_lt_of_cell? w _ h1)]; exact h1, h2.below hb, h3⟩
theorem concatK_any (Ps : List (Option Addr × List TK × Nat)) (B : Addr) (c : Nat) (w : World) (hP : PiecesK w B Ps) (hlen : Ps.length ≤ 3) (hsum : xO Ps ≤ 100) :
  Calls Tryz.prog 154 #[.slice (some B) Ps.length c] w fun e w' => (∃ v, e = .returned v ∧ yJ w' v (Ps.flatMap fun x => x.2.1) ∧ zK w.heap.size v) ∧ Below w.heap.size w w' := by
 obtain ⟨i0, hi, hz0, hz1, hz2⟩ := info_parts info23
 have HP := zA hP
 have HS := zA (fun q => lenS_le Ps q)
 clear hP
 go_enter Tryz.func154, Tryz.ntmps154
 go_wp2_with fail
 go_loopw [3, 11] (fun s j wr => ∃ (q : Nat), q ≤ Ps.length ∧ j = .int .i64 q ∧ s = .int .i64 (xO (Ps.take q) : Int) ∧ wr = w) (fun _ j _ => Ps.length - (intOf j).toNat)
 case atStart => exact ⟨0, Nat.zero_le _, rfl, by simp [xO], rfl⟩
 case round =>
  obtain ⟨q, hq, rfl, rfl, hw⟩ := hrel
  obtain rfl := hw.symm
  clear hw
  have hb1 := HS.out q
  by_cases hgo : q < Ps.length
  ·obtain ⟨⟨o, L, cap⟩, hp⟩ : ∃ p, Ps[q]? = some p := ⟨Ps[q], by simp [hgo]⟩
   obtain ⟨c0, -, -⟩ := HP.out q o L cap hp
   have hb2 := HS.out (q + 1)
   have HL := zA (lenS_take Ps q o L cap hp)
   have hb3 : xO (Ps.take q) + L.length ≤ 100 := by rw [← HL.out]; omega
   clear hp hb2
   generalize xO (Ps.take q) = s at *
   go_wp2_with fail
   exact ⟨⟨q + 1, by omega, by simp, by rw [HL.out]; simp, by first | trivial | rfl⟩, by simp [intOf]; omega⟩
  ·obtain rfl : q = Ps.length := by omega
   clear hgo
   generalize xO (Ps.take Ps.length) = s at *
   have hs : s ≤ 100 := by omega
   go_wp2_with fail
   refine (growK_any s _ hs).mono ?_
   rintro e w1 ⟨⟨v, rfl, hown⟩, hbw⟩
   have HO := zA hown
   have HB := zA hbw
   have HP1 := zA (HP.out.below hbw)
   clear hown hbw
   go_wp2_with fail
   go_loopw [6, 27] (fun v j wr => ∃ (q : Nat), q ≤ Ps.length ∧ j = .int .i64 q ∧ wr.ownsRow w.heap.size 34 6 v (xO (Ps.take q)) (qP ((Ps.take q).flatMap fun x => x.2.1)) ∧ Below w.heap.size w wr) (fun _ j _ => Ps.length - (intOf j).toNat)
   case atStart => exact ⟨0, Nat.zero_le _, rfl, HO.out, HB.out⟩
   case round =>
    obtain ⟨q, hq2, rfl, hown, hbr⟩ := hrel
    by_cases hgo : q < Ps.length
    ·obtain ⟨⟨o, L, cap⟩, hp⟩ : ∃ p, Ps[q]? = some p := ⟨Ps[q], by simp [hgo]⟩
     obtain ⟨c0, hAt, hcap⟩ := (HP.out.below hbr) q o L cap hp
     have hb2 := HS.out (q + 1)
     have HL := zA (lenS_take Ps q o L cap hp)
     have hb3 : xO (Ps.take q) + L.length ≤ 100 := by rw [← HL.out]; omega
     have HF := zA (flat_take Ps q o L cap hp)
     have hsz := hbr.size
     clear hp hb2
     generalize xO (Ps.take q) = s2 at *
     generalize (Ps.take q).flatMap (fun x => x.2.1) = F at *
     cases o with
     | none =>
      have hL0 : L = [] := by
       cases L with
       | nil => rfl
       | cons x L => obtain ⟨b, hb, -⟩ := hAt 0 x rfl; cases hb
      have hc0 := hcap rfl
      subst hL0 hc0
      clear hAt hcap
      go_wp2_with (at_builtin; refine wpList_append_own_none rfl _ _ 22 rfl w.heap.size 34 i0 6 Tryz.underlying22 hi _ s2 _ rfl hown rfl ?_)
      exact ⟨⟨q + 1, by omega, by simp, by rw [HL.out, HF.out, List.append_nil]; exact hown, hbr⟩, by simp [intOf]; omega⟩
     | some A =>
      have HN := zA (tiks_cells hAt)
      clear hAt hcap
      go_wp2_with (at_builtin; refine wpList_append_own _ rfl _ _ 22 rfl w.heap.size 34 i0 _ 6 48 Tryz.underlying22 hi hz0 hz1 hz2 rfl (by decide) _ s2 _ rfl hown A L.length cap (qP L) rfl (cellsK_len L) HN.out (oneK L) (by unfold maxLen; omega) (by omega) hsz ?_; intro v1 w2 hown1 hgrow1 _)
      exact ⟨⟨q + 1, by omega, by simp, by rw [HL.out, HF.out, cellsK_app]; exact hown1, hbr.grown hgrow1 hsz (fun k hk => (hown.lt k hk).1)⟩, by simp [intOf]; omega⟩
    ·obtain rfl : q = Ps.length := by omega
     rw [List.take_length] at hown
     have HV := zA (And.intro (tiksV_own hown) (show zK w.heap.size _ from fun k hk => (hown.lt k hk).1))
     clear hown
     go_wp2_with fail
     go_ret
     exact ⟨⟨_, rfl, HV.out.1, HV.out.2⟩, hbr⟩
def PiecesV (w : World) (B : Addr) (Ps : List (Option Addr × List Int × Nat)) : Prop :=
 ∀ q o L cap, Ps[q]? = some (o, L, cap) → w.cell? (B.add q) = some (.slice o L.length cap) ∧ zH w o L ∧ (o = none → cap = 0)
theorem PiecesV.below {w w' : World} {B : Addr} {Ps : List (Option Addr × List Int × Nat)} (h : PiecesV w B Ps) (hb : Below w.heap.size w w') : PiecesV w' B Ps :=
 fun q o L cap hq => have ⟨h1, h2, h3⟩ := h q o L cap hq; ⟨by rw [hb.cell (World.block_lt_of_cell? w _ h1)]; exact h1, h2.below hb, h3⟩
theorem concatV_any (Ps : List (Option Addr × List Int × Nat)) (B : Addr) (c : Nat) (w : World) (hP : PiecesV w B Ps) (hlen : Ps.length ≤ 3) (hsum : xO Ps ≤ 100) :
  Calls Tryz.prog 175 #[.slice (some B) Ps.length c] w fun e w' => (∃ v, e = .returned v ∧ zP w' v (Ps.flatMap fun x => x.2.1) ∧ zK w.heap.size v) ∧ Below w.heap.size w w' := by
 obtain ⟨i0, hi, hz0, hz1, hz2⟩ := info_parts info3
 have HP := zA hP
 have HS := zA (fun q => lenS_le Ps q)
 clear hP
 go_enter Tryz.func175, Tryz.ntmps175
 go_wp2_with fail
 go_loopw [3, 11] (fun s j wr => ∃ (q : Nat), q ≤ Ps.length ∧ j = .int .i64 q ∧ s = .int .i64 (xO (Ps.take q) : Int) ∧ wr = w) (fun _ j _ => Ps.length - (intOf j).toNat)
 case atStart => exact ⟨0, Nat.zero_le _, rfl, by simp [xO], rfl⟩
 case round =>
  obtain ⟨q, hq, rfl, rfl, hw⟩ := hrel
  obtain rfl := hw.symm
  clear hw
  have hb1 := HS.out q
  by_cases hgo : q < Ps.length
  ·obtain ⟨⟨o, L, cap⟩, hp⟩ : ∃ p, Ps[q]? = some p := ⟨Ps[q], by simp [hgo]⟩
   obtain ⟨c0, -, -⟩ := HP.out q o L cap hp
   have hb2 := HS.out (q + 1)
   have HL := zA (lenS_take Ps q o L cap hp)
   have hb3 : xO (Ps.take q) + L.length ≤ 100 := by rw [← HL.out]; omega
   clear hp hb2
   generalize xO (Ps.take q) = s at *
   go_wp2_with fail
   exact ⟨⟨q + 1, by omega, by simp, by rw [HL.out]; simp, by first | trivial | rfl⟩, by simp [intOf]; omega⟩
  ·obtain rfl : q = Ps.length := by omega
   clear hgo
   generalize xO (Ps.take Ps.length) = s at *
   have hs : s ≤ 100 := by omega
   go_wp2_with fail
   refine (growV_any s _ hs).mono ?_
   rintro e w1 ⟨⟨v, rfl, hown⟩, hbw⟩
   have HO := zA hown
   have HB := zA hbw
   have HP1 := zA (HP.out.below hbw)
   clear hown hbw
   go_wp2_with fail
   go_loopw [6, 27] (fun v j wr => ∃ (q : Nat), q ≤ Ps.length ∧ j = .int .i64 q ∧ wr.ownsRow w.heap.size 3 1 v (xO (Ps.take q)) (qJ ((Ps.take q).flatMap fun x => x.2.1)) ∧ Below w.heap.size w wr) (fun _ j _ => Ps.length - (intOf j).toNat)
   case atStart => exact ⟨0, Nat.zero_le _, rfl, HO.out, HB.out⟩
   case round =>
    obtain ⟨q, hq2, rfl, hown, hbr⟩ := hrel
    by_cases hgo : q < Ps.length
    ·obtain ⟨⟨o, L, cap⟩, hp⟩ : ∃ p, Ps[q]? = some p := ⟨Ps[q], by simp [hgo]⟩
     obtain ⟨c0, hAt, hcap⟩ := (HP.out.below hbr) q o L cap hp
     have hb2 := HS.out (q + 1)
     have HL := zA (lenS_take Ps q o L cap hp)
     have hb3 : xO (Ps.take q) + L.length ≤ 100 := by rw [← HL.out]; omega
     have HF := zA (flat_take Ps q o L cap hp)
     have hsz := hbr.size
     clear hp hb2
     generalize xO (Ps.take q) = s2 at *
     generalize (Ps.take q).flatMap (fun x => x.2.1) = F at *
     cases o with
     | none =>
      have hL0 : L = [] := by
       cases L with
       | nil => rfl
       | cons x L => obtain ⟨b, hb, -⟩ := hAt 0 x rfl; cases hb
      have hc0 := hcap rfl
      subst hL0 hc0
      clear hAt hcap
      go_wp2_with (at_builtin; refine wpList_append_own_none rfl _ _ 24 rfl w.heap.size 3 i0 1 Tryz.underlying24 hi _ s2 _ rfl hown rfl ?_)
      exact ⟨⟨q + 1, by omega, by simp, by rw [HL.out, HF.out, List.append_nil]; exact hown, hbr⟩, by simp [intOf]; omega⟩
     | some A =>
      have HN := zA (ints_cells hAt)
      clear hAt hcap
      go_wp2_with (at_builtin; refine wpList_append_own _ rfl _ _ 24 rfl w.heap.size 3 i0 _ 1 8 Tryz.underlying24 hi hz0 hz1 hz2 rfl (by decide) _ s2 _ rfl hown A L.length cap (qJ L) rfl (cellsV_len L) HN.out (oneV L) (by unfold maxLen; omega) (by omega) hsz ?_; intro v1 w2 hown1 hgrow1 _)
      exact ⟨⟨q + 1, by omega, by simp, by rw [HL.out, HF.out, cellsV_app]; exact hown1, hbr.grown hgrow1 hsz (fun k hk => (hown.lt k hk).1)⟩, by simp [intOf]; omega⟩
    ·obtain rfl : q = Ps.length := by omega
     rw [List.take_length] at hown
     have HV := zA (And.intro (intsV_own hown) (show zK w.heap.size _ from fun k hk => (hown.lt k hk).1))
     clear hown
     go_wp2_with fail
     go_ret
     exact ⟨⟨_, rfl, HV.out.1, HV.out.2⟩, hbr⟩
end
section
section
variable {P : Program} {ops : Array Oper} {Q : Exit → Act → World → Prop} {S : World → Prop}
def takesI (ops : Array Oper) : List Nat → Array Bool → Bool
 | [], _ => true
 | i :: l, listed => Region.free .any ops listed i && (Region.ready .any ops listed).contains i && takesI ops l (listed.setIfInBounds i true)
def listedI : List Nat → Array Bool → Array Bool
 | [], l => l
 | i :: l, listed => listedI l (listed.setIfInBounds i true)
def wpPureH (P : Program) (ops : Array Oper) (S : World → Prop) (K : Act → Prop) : List Nat → Act → Prop
 | [], a => K a
 | i :: rest, a => ∃ o v, ops[i]? = some o ∧ YieldsIf P ops S o v a ∧ wpPureH P ops S K rest (a.put o.dst v)
theorem zE {K : Act → Prop} {a : Act} (h : K a) : wpPureH P ops S K [] a := h
theorem zB {K : Act → Prop} {i : Nat} {o : Oper} {rest : List Nat} {a : Act} (v : Value) (ho : ops[i]? = some o) (hg : o.guard = none)
  (h : ∀ w, S w → (execOp a.eval o).run P w = .ok (.value v) w) (h2 : wpPureH P ops S K rest (a.put o.dst v)) : wpPureH P ops S K (i :: rest) a :=
 ⟨o, v, ho, .inl ⟨by simp [Region.wanted, hg], h⟩, h2⟩
theorem pS {K : Act → Prop} {i : Nat} {o : Oper} {rest : List Nat} {a : Act} (v : Value) (ho : ops[i]? = some o) (hg : o.guard = none)
    (h2 : wpPureH P ops S K rest (a.put o.dst v)) (h : ∀ w, S w → (execOp a.eval o).run P w = .ok (.value v) w := by intro w' _; go_simp) : wpPureH P ops S K (i :: rest) a := zB v ho hg h h2
theorem yB (hs : Region.noSelect ops = true) (hQ : ∀ c d v a w, Q (.panic c) (Act.put a d v) w → Q (.panic c) a w) {fuel : Nat} {w : World} (hS : S w) :
  ∀ (l : List Nat) (listed : Array Bool) (a : Act), takesI ops l listed = true →
   wpPureH P ops S (fun a' => wpAnyH P .any ops Q S fuel (listedI l listed) a' w) l a → wpAnyH P .any ops Q S (fuel + l.length) listed a w
 | [], listed, a, _, h => h
 | i :: l, listed, a, hk, h => by
  obtain ⟨o, v, h0, hy, hrest⟩ := h
  simp only [takesI, Bool.and_eq_true] at hk
  exact wpAnyH_take (i := i) (oi := o) (v := v) (fuel := fuel + l.length) h0 hs hk.1.1 hk.1.2 (fun c a w => hQ c o.dst v a w) hy hS (yB hs hQ hS l (listed.setIfInBounds i true) (a.put o.dst v) hk.2 hrest)
theorem zJ {id : Nat} {a : Act} {w : World} {l : List Oper} (S : World → Prop) (idx : List Nat) (m : Nat) (hn : l.length = m + idx.length) (hm : P.follows .mixedOrders = true) (hs : Region.noSelect l.toArray = true)
  (hk : takesI l.toArray idx (Array.replicate (m + idx.length) false) = true) (hQ : ∀ c d v a w, Q (.panic c) (Act.put a d v) w → Q (.panic c) a w) (hS : S w.drew)
  (h : wpPureH P l.toArray S (fun a' => wpAnyH P .any l.toArray Q S m (listedI idx (Array.replicate (m + idx.length) false)) a' w.drew) idx a) : (Code.region id l.toArray true).wp P Q a w := by
 refine wp_region_held hm (S := S) ?_
 have := yB (P := P) (ops := l.toArray) (Q := Q) (fuel := m) (w := w.drew) hs hQ hS idx (Array.replicate (m + idx.length) false) a hk h
 simpa [hn] using this
theorem one_readyH {i : Nat} {o : Oper} {fuel : Nat} {listed : Array Bool} {a : Act} {w : World} (hr : Region.ready .any ops listed = [i]) (ho : ops[i]? = some o) (hg : o.guard = none)
  (h : ∀ K' : Act → World → Prop, (∀ a w, S w → wpAnyH P .any ops Q S fuel (listed.setIfInBounds i true) a w → K' a w) → o.wp P a w K' Q) : wpAnyH P .any ops Q S (fuel + 1) listed a w := by
 refine wpAnyH_all hr (by simp) (fun j hj => ?_)
 obtain rfl : j = i := by simpa using hj
 unfold wpOp
 simp only [ho]
 rw [if_pos (by simp [Region.wanted, hg])]
 exact .inl (h _ (fun _ _ h1 h2 => ⟨h1, h2⟩))
theorem oR (i : Nat) {o : Oper} {fuel : Nat} {listed : Array Bool} {a : Act} {w : World} (ho : ops[i]? = some o) (hg : o.guard = none)
    (h : ∀ K' : Act → World → Prop, (∀ a w, S w → wpAnyH P .any ops Q S fuel (listed.setIfInBounds i true) a w → K' a w) → o.wp P a w K' Q) (hr : Region.ready .any ops listed = [i] := by kernel_rfl) : wpAnyH P .any ops Q S (fuel + 1) listed a w := one_readyH hr ho hg h
theorem zT {i j : Nat} {o p : Oper} {fuel : Nat} {listed : Array Bool} {a : Act} {w : World} (hr : Region.ready .any ops listed = [i, j]) (ho : ops[i]? = some o) (hg : o.guard = none) (hp : ops[j]? = some p) (hg' : p.guard = none)
  (h : ∀ K' : Act → World → Prop, (∀ a w, S w → wpAnyH P .any ops Q S fuel (listed.setIfInBounds i true) a w → K' a w) → o.wp P a w K' Q)
  (h' : ∀ K' : Act → World → Prop, (∀ a w, S w → wpAnyH P .any ops Q S fuel (listed.setIfInBounds j true) a w → K' a w) → p.wp P a w K' Q) : wpAnyH P .any ops Q S (fuel + 1) listed a w := by
 refine wpAnyH_all hr (by simp) (fun q hq => ?_)
 have hq' : q = i ∨ q = j := by simpa using hq
 rcases hq' with rfl | rfl
 ·unfold wpOp
  simp only [ho]
  rw [if_pos (by simp [Region.wanted, hg])]
  exact .inl (h _ (fun _ _ h1 h2 => ⟨h1, h2⟩))
 ·unfold wpOp
  simp only [hp]
  rw [if_pos (by simp [Region.wanted, hg'])]
  exact .inl (h' _ (fun _ _ h1 h2 => ⟨h1, h2⟩))
theorem three_readyH {i j k : Nat} {o p q : Oper} {fuel : Nat} {listed : Array Bool} {a : Act} {w : World} (hr : Region.ready .any ops listed = [i, j, k]) (ho : ops[i]? = some o) (hg : o.guard = none) (hp : ops[j]? = some p) (hg' : p.guard = none)
  (hq : ops[k]? = some q) (hg'' : q.guard = none)
  (h : ∀ K' : Act → World → Prop, (∀ a w, S w → wpAnyH P .any ops Q S fuel (listed.setIfInBounds i true) a w → K' a w) → o.wp P a w K' Q)
  (h' : ∀ K' : Act → World → Prop, (∀ a w, S w → wpAnyH P .any ops Q S fuel (listed.setIfInBounds j true) a w → K' a w) → p.wp P a w K' Q)
  (h'' : ∀ K' : Act → World → Prop, (∀ a w, S w → wpAnyH P .any ops Q S fuel (listed.setIfInBounds k true) a w → K' a w) → q.wp P a w K' Q) : wpAnyH P .any ops Q S (fuel + 1) listed a w := by
 refine wpAnyH_all hr (by simp) (fun n hn => ?_)
 have hn' : n = i ∨ n = j ∨ n = k := by simpa using hn
 rcases hn' with rfl | rfl | rfl
 ·unfold wpOp
  simp only [ho]
  rw [if_pos (by simp [Region.wanted, hg])]
  exact .inl (h _ (fun _ _ h1 h2 => ⟨h1, h2⟩))
 ·unfold wpOp
  simp only [hp]
  rw [if_pos (by simp [Region.wanted, hg'])]
  exact .inl (h' _ (fun _ _ h1 h2 => ⟨h1, h2⟩))
 ·unfold wpOp
  simp only [hq]
  rw [if_pos (by simp [Region.wanted, hg''])]
  exact .inl (h'' _ (fun _ _ h1 h2 => ⟨h1, h2⟩))
end
end
section
open Go.RowKit
theorem dAt_set {w : World} {A : Addr} {p : Addr} {u : Value} {n : Nat} {v : Value} (hne : p.block < A.block) (h : w.cell? (A.add n) = some v) : (w.setCell p u).cell? (A.add n) = some v := by
 rw [World.cell?_setCell_other]
 ·exact h
 ·intro e
  have : (A.add n).block = A.block := add_block A n
  rw [← e] at this
  omega
theorem zP.setD {w : World} {B : Nat} {v : Value} {L : List Int} (h : zP w v L) (hf : zK B v) {p : Addr} (hp : p.block < B) (u : Value) : zP (w.setCell p u) v L := by
 obtain ⟨o, c, rfl, h1, h2⟩ := h
 refine ⟨o, c, rfl, fun i x hi => ?_, h2⟩
 obtain ⟨b, rfl, a0⟩ := h1 i x hi
 have hB : B ≤ b.block := hf _ rfl
 exact ⟨b, rfl, dAt_set (by omega) a0⟩
theorem zK.monoD {B C : Nat} {v : Value} (h : zK B v) (hc : C ≤ B) : zK C v := fun k hk => Nat.le_trans hc (h k hk)
theorem zH.takeD {w : World} {o : Option Addr} {L : List Int} (h : zH w o L) (n : Nat) : zH w o (L.take n) := fun i p hi => by
 rw [List.getElem?_take] at hi
 split at hi
 ·exact h i p hi
 ·cases hi
theorem dAdd_add (A : Addr) (n m : Nat) : (A.add n).add m = A.add (n + m) := by
 by_cases h1 : n = 0
 ·subst h1; simp [Addr.add]
 ·by_cases h2 : m = 0
  ·subst h2; simp [Addr.add]
  ·simp [Addr.add, h1, h2]
   omega
theorem zH.drop {w : World} {A : Addr} {L : List Int} (h : zH w (some A) L) (n c : Nat) (hc : L.length ≤ c) : zH w (if c = n then some A else some (A.add n)) (L.drop n) := fun i p hi => by
 rw [List.getElem?_drop] at hi
 have hlt := (List.getElem?_eq_some_iff.1 hi).1
 rw [if_neg (by omega)]
 obtain ⟨b, hb, h6⟩ := h (n + i) p hi
 cases hb
 refine ⟨_, rfl, ?_⟩
 rw [dAdd_add]
 exact h6
theorem intsAt_single {w : World} {b : Nat} {j : Int} (h : w.cell? ⟨b, 0, none⟩ = some (.int .i64 j)) : zH w (some ⟨b, 0, none⟩) [j] := by
 intro i v hv
 match i, hv with
 | 0, hv =>
  simp at hv
  subst hv
  exact ⟨_, rfl, by simpa [Addr.add] using h⟩
 | i + 1, hv => simp at hv
def posI (L : List Int) (id : Int) : Nat := L.findIdx fun x => decide (id < x)
def addI (L : List Int) (id : Int) : List Int := L.take (posI L id) ++ [id] ++ L.drop (posI L id)
theorem with_any (v id : Int) (L : List Int) (o : Option Addr) (cap : Nat) (w : World) (hL : zH w o L) (hlen : L.length ≤ 12) (hcap : L.length ≤ cap) (hnone : o = none → cap = 0) (hv : 0 ≤ v) (hv' : v ≤ 999) :
  Calls Tryz.prog 148 #[dn v o L.length cap, .int .i64 id] w fun e w' => (∃ u, e = .returned (.agg #[.int .i64 (v + 1), u]) ∧ zP w' u (addI L id) ∧ zK w.heap.size u) ∧ Below w.heap.size w w' := by
 have HB := zA ((((zL.nil w).more (.cells #[.int .i64 v, .slice o L.length cap] 164) (by simp)).more (.cells #[.int .i64 id] 3) (by simp)).more (.cells #[.int .i64 0, .slice none 0 0] 28) (by simp))
 have HI := zA (fun W (h1 : zH W o L) (h2 : W.cell? ⟨w.heap.size + 1, 0, none⟩ = some (.int .i64 id)) => firstW_any (w.heap.size + 1) id v L o cap W h1 (by omega) h2)
 have HL := zA hL
 have hpos : posI L id ≤ L.length := List.findIdx_le_length
 have hwrap : IntKind.i64.wrap (v + 1) = v + 1 := by simp [IntKind.wrap, IntKind.bits]; omega
 clear hL
 unfold addI
 go_enter Tryz.func148, Tryz.ntmps148
 go_wp2_with fail
 refine (HI.out _ (HL.out.below HB.out.2.2) (HB.out.cell 1 0 _ _ _ _ rfl rfl rfl)).mono ?_
 rintro e w3 ⟨rfl, hb⟩
 have HB3 := zA (HB.out.on hb)
 clear hb HB HI
 change (L.findIdx fun x => decide (id < x)) ≤ L.length at hpos
 have HP : Hid (posI L id = L.findIdx fun x => decide (id < x)) := rfl
 generalize (L.findIdx fun x => decide (id < x)) = pos at *
 go_wp2_with fail
 have hposc : pos ≤ cap := by omega
 cases o with
 | none =>
  have hL0 : L = [] := by
   cases L with
   | nil => rfl
   | cons x T => obtain ⟨b, hb, -⟩ := HL.out 0 x rfl; cases hb
  obtain rfl : cap = 0 := hnone rfl
  subst hL0
  obtain rfl : pos = 0 := by simpa using hpos
  simp only [List.length_nil] at HB3 ⊢
  refine zJ (fun w' => zL w w' ([] ++ [.cells #[.int .i64 v, .slice none 0 0] 164] ++ [.cells #[.int .i64 id] 3])) [0, 1, 2, 3, 4, 5, 6, 7, 8, 9, 11, 12, 13, 14, 15] 5 (by rfl) (by kernel_rfl) (by kernel_rfl) (by kernel_rfl) (fun c d v a w h => by cases d <;> exact h) ?_ ?_
  ·exact (HB3.out.on (Below.refl _ _).drew).sub
  refine zB (.pointer (some ⟨w.heap.size, 0, none⟩)) rfl rfl (fun w' hS => ?_) ?_
  ·have x0 := hS.cell 0 0 w.heap.size _ _ _ rfl rfl rfl
   have x1 := hS.cell 0 1 w.heap.size _ _ _ rfl rfl rfl
   have y0 := hS.cell 1 0 (w.heap.size + 1) _ _ _ rfl rfl rfl
   go_simp
   try (intro h; omega)
  refine zB (.pointer (some ⟨w.heap.size, 0, none⟩)) rfl rfl (fun w' hS => ?_) ?_
  ·have x0 := hS.cell 0 0 w.heap.size _ _ _ rfl rfl rfl
   have x1 := hS.cell 0 1 w.heap.size _ _ _ rfl rfl rfl
   have y0 := hS.cell 1 0 (w.heap.size + 1) _ _ _ rfl rfl rfl
   go_simp
   try (intro h; omega)
  refine zB (.int .i64 v) rfl rfl (fun w' hS => ?_) ?_
  ·have x0 := hS.cell 0 0 w.heap.size _ _ _ rfl rfl rfl
   have x1 := hS.cell 0 1 w.heap.size _ _ _ rfl rfl rfl
   have y0 := hS.cell 1 0 (w.heap.size + 1) _ _ _ rfl rfl rfl
   go_simp
   try (intro h; omega)
  refine zB (.int .i64 (v + 1)) rfl rfl (fun w' hS => ?_) ?_
  ·have x0 := hS.cell 0 0 w.heap.size _ _ _ rfl rfl rfl
   have x1 := hS.cell 0 1 w.heap.size _ _ _ rfl rfl rfl
   have y0 := hS.cell 1 0 (w.heap.size + 1) _ _ _ rfl rfl rfl
   go_simp
   try (intro h; omega)
  refine zB (.pointer (some ⟨w.heap.size, 0, none⟩)) rfl rfl (fun w' hS => ?_) ?_
  ·have x0 := hS.cell 0 0 w.heap.size _ _ _ rfl rfl rfl
   have x1 := hS.cell 0 1 w.heap.size _ _ _ rfl rfl rfl
   have y0 := hS.cell 1 0 (w.heap.size + 1) _ _ _ rfl rfl rfl
   go_simp
   try (intro h; omega)
  refine zB (.pointer (some ⟨w.heap.size, 1, none⟩)) rfl rfl (fun w' hS => ?_) ?_
  ·have x0 := hS.cell 0 0 w.heap.size _ _ _ rfl rfl rfl
   have x1 := hS.cell 0 1 w.heap.size _ _ _ rfl rfl rfl
   have y0 := hS.cell 1 0 (w.heap.size + 1) _ _ _ rfl rfl rfl
   go_simp
   try (intro h; omega)
  refine zB (.slice none 0 0) rfl rfl (fun w' hS => ?_) ?_
  ·have x0 := hS.cell 0 0 w.heap.size _ _ _ rfl rfl rfl
   have x1 := hS.cell 0 1 w.heap.size _ _ _ rfl rfl rfl
   have y0 := hS.cell 1 0 (w.heap.size + 1) _ _ _ rfl rfl rfl
   go_simp
   try (intro h; omega)
  refine zB (.int .i64 0) rfl rfl (fun w' hS => ?_) ?_
  ·have x0 := hS.cell 0 0 w.heap.size _ _ _ rfl rfl rfl
   have x1 := hS.cell 0 1 w.heap.size _ _ _ rfl rfl rfl
   have y0 := hS.cell 1 0 (w.heap.size + 1) _ _ _ rfl rfl rfl
   go_simp
   try (intro h; omega)
  refine zB (.slice none 0 0) rfl rfl (fun w' hS => ?_) ?_
  ·have x0 := hS.cell 0 0 w.heap.size _ _ _ rfl rfl rfl
   have x1 := hS.cell 0 1 w.heap.size _ _ _ rfl rfl rfl
   have y0 := hS.cell 1 0 (w.heap.size + 1) _ _ _ rfl rfl rfl
   go_simp
   try (intro h; omega)
  refine zB (.int .i64 id) rfl rfl (fun w' hS => ?_) ?_
  ·have x0 := hS.cell 0 0 w.heap.size _ _ _ rfl rfl rfl
   have x1 := hS.cell 0 1 w.heap.size _ _ _ rfl rfl rfl
   have y0 := hS.cell 1 0 (w.heap.size + 1) _ _ _ rfl rfl rfl
   go_simp
   try (intro h; omega)
  refine zB (.pointer (some ⟨w.heap.size, 0, none⟩)) rfl rfl (fun w' hS => ?_) ?_
  ·have x0 := hS.cell 0 0 w.heap.size _ _ _ rfl rfl rfl
   have x1 := hS.cell 0 1 w.heap.size _ _ _ rfl rfl rfl
   have y0 := hS.cell 1 0 (w.heap.size + 1) _ _ _ rfl rfl rfl
   go_simp
   try (intro h; omega)
  refine zB (.pointer (some ⟨w.heap.size, 1, none⟩)) rfl rfl (fun w' hS => ?_) ?_
  ·have x0 := hS.cell 0 0 w.heap.size _ _ _ rfl rfl rfl
   have x1 := hS.cell 0 1 w.heap.size _ _ _ rfl rfl rfl
   have y0 := hS.cell 1 0 (w.heap.size + 1) _ _ _ rfl rfl rfl
   go_simp
   try (intro h; omega)
  refine zB (.slice none 0 0) rfl rfl (fun w' hS => ?_) ?_
  ·have x0 := hS.cell 0 0 w.heap.size _ _ _ rfl rfl rfl
   have x1 := hS.cell 0 1 w.heap.size _ _ _ rfl rfl rfl
   have y0 := hS.cell 1 0 (w.heap.size + 1) _ _ _ rfl rfl rfl
   go_simp
   try (intro h; omega)
  refine zB (.int .i64 0) rfl rfl (fun w' hS => ?_) ?_
  ·have x0 := hS.cell 0 0 w.heap.size _ _ _ rfl rfl rfl
   have x1 := hS.cell 0 1 w.heap.size _ _ _ rfl rfl rfl
   have y0 := hS.cell 1 0 (w.heap.size + 1) _ _ _ rfl rfl rfl
   go_simp
   try (intro h; omega)
  refine zB (.slice none 0 0) rfl rfl (fun w' hS => ?_) ?_
  ·have x0 := hS.cell 0 0 w.heap.size _ _ _ rfl rfl rfl
   have x1 := hS.cell 0 1 w.heap.size _ _ _ rfl rfl rfl
   have y0 := hS.cell 1 0 (w.heap.size + 1) _ _ _ rfl rfl rfl
   go_simp
   try (intro h; omega)
  refine zE ?_
  have HBa := zA (HB3.out.on ((Below.refl w3.heap.size w3).drew))
  clear HB3
  generalize w3.drew = wa at *
  refine oR 10 rfl rfl fun K hK => ?_
  go_simp
  have HBb := zA (HBa.out.on ((Below.refl wa.heap.size wa).alloc (Nat.le_refl _) (.cells #[.int .i64 id] 3)))
  have HKb : Hid ((wa.alloc (.cells #[.int .i64 id] 3)).cell? ⟨wa.heap.size, 0, none⟩ = some (.int .i64 id)) := zA (by simp [go_sem])
  refine hK _ _ HBb.out.sub ?_
  clear hK K HBa
  generalize wa.alloc (.cells #[.int .i64 id] 3) = wb at *
  refine oR 16 rfl rfl fun K hK => ?_
  go_simp
  have hbw := (Below.refl wb.heap.size wb).alloc (Nat.le_refl _) (.cells #[.slice none 0 0, .slice (some ⟨wa.heap.size, 0, none⟩) 1 1, .slice none 0 0] 24)
  have HBc := zA (HBb.out.on hbw)
  have HPc : Hid (PiecesV (wb.alloc (.cells #[.slice none 0 0, .slice (some ⟨wa.heap.size, 0, none⟩) 1 1, .slice none 0 0] 24)) ⟨wb.heap.size, 0, none⟩ [(none, [], 0), (some ⟨wa.heap.size, 0, none⟩, [id], 1), (none, [], 0)]) := by
   have hTw := HL.out.below HBc.out.2.2
   have hT6 : (wb.alloc (.cells #[.slice none 0 0, .slice (some ⟨wa.heap.size, 0, none⟩) 1 1, .slice none 0 0] 24)).cell? ⟨wa.heap.size, 0, none⟩ = some (.int .i64 id) := by rw [hbw.cell (World.block_lt_of_cell? wb _ HKb.out)]; exact HKb.out
   intro q o L' cap' hq
   match q, hq with
   | 0, hq =>
    simp at hq
    obtain ⟨rfl, rfl, rfl⟩ := hq
    exact ⟨by simp [Addr.add, go_sem], fun i p h => by simp at h, fun _ => rfl⟩
   | 1, hq =>
    simp at hq
    obtain ⟨rfl, rfl, rfl⟩ := hq
    exact ⟨by simp [Addr.add, go_sem], intsAt_single hT6, fun h => by cases h⟩
   | 2, hq =>
    simp at hq
    obtain ⟨rfl, rfl, rfl⟩ := hq
    exact ⟨by simp [Addr.add, go_sem], fun i p h => by simp at h, fun _ => rfl⟩
   | q + 3, hq => simp at hq
  refine hK _ _ HBc.out.sub ?_
  clear hK K HBb HKb hbw
  generalize wb.alloc (.cells #[.slice none 0 0, .slice (some ⟨wa.heap.size, 0, none⟩) 1 1, .slice none 0 0] 24) = wc at *
  refine oR 17 rfl rfl fun K hK => ?_
  go_simp
  refine (concatV_any _ _ 3 wc HPc.out (by simp) (by simp [xO])).mono ?_
  rintro e wd ⟨⟨v1, rfl, hv1, hf1⟩, hbd⟩
  replace hv1 : zP wd v1 ([id]) := by simpa using hv1
  generalize hM : [id] = M at hv1
  have HM := zA hM
  clear hM
  obtain ⟨oa, ca, rfl, ha⟩ := hv1
  have hv1 : zP wd (.slice oa M.length ca) M := ⟨oa, ca, rfl, ha⟩
  clear ha
  have HBd := zA (HBc.out.on hbd)
  have hsz := HBc.out.2.1
  simp only [List.length_append, List.length_cons, List.length_nil] at hsz
  have HV1 := zA (And.intro hv1 (hf1.monoD (show w.heap.size + 1 + 1 + 1 ≤ wc.heap.size by omega)))
  clear hv1 hf1 hbd HPc HBc hsz
  refine hK _ _ HBd.out.sub ?_
  clear hK K
  refine oR 18 rfl rfl fun K hK => ?_
  go_simp
  refine hK _ _ HBd.out.sub ?_
  clear hK K
  obtain ⟨r0, r1⟩ := HBd.out.c2 2 (w.heap.size + 1 + 1) rfl rfl rfl rfl
  obtain ⟨s0, s1⟩ := HBd.out.z2 2 (w.heap.size + 1 + 1) rfl rfl
  refine oR 19 rfl rfl fun K hK => ?_
  go_simp
  have HKg := zA ((HBd.out.sub.set ⟨w.heap.size + 1 + 1, 0, none⟩ (by simp) (.int .i64 (v + 1))).set ⟨w.heap.size + 1 + 1, 1, none⟩ (by simp) (.slice oa M.length ca))
  have g0 : ((wd.setCell ⟨w.heap.size + 1 + 1, 0, none⟩ (.int .i64 (v + 1))).setCell ⟨w.heap.size + 1 + 1, 1, none⟩ (.slice oa M.length ca)).cell? ⟨w.heap.size + 1 + 1, 0, none⟩ = some (.int .i64 (v + 1)) := by simp [go_sem, r0]
  have g1 : ((wd.setCell ⟨w.heap.size + 1 + 1, 0, none⟩ (.int .i64 (v + 1))).setCell ⟨w.heap.size + 1 + 1, 1, none⟩ (.slice oa M.length ca)).cell? ⟨w.heap.size + 1 + 1, 1, none⟩ = some (.slice oa M.length ca) := by simp [go_sem, r1]
  have HVg := zA ((HV1.out.1.setD HV1.out.2 (p := ⟨w.heap.size + 1 + 1, 0, none⟩) (by simp) (.int .i64 (v + 1))).setD HV1.out.2 (p := ⟨w.heap.size + 1 + 1, 1, none⟩) (by simp) (.slice oa M.length ca))
  have HF := zA (HV1.out.2.monoD (show w.heap.size ≤ w.heap.size + 1 + 1 + 1 by omega))
  refine hK _ _ HKg.out ?_
  clear hK K HV1 HBd r0 r1 s0 s1
  generalize (wd.setCell ⟨w.heap.size + 1 + 1, 0, none⟩ (.int .i64 (v + 1))).setCell ⟨w.heap.size + 1 + 1, 1, none⟩ (.slice oa M.length ca) = wg at *
  refine wpAnyH_done (by kernel_rfl) ?_ _
  go_wp2_with fail
  refine bodyPost_ret (v := .agg #[.int .i64 (v + 1), .slice oa M.length ca]) (by simp [results, Tryz.results148, go_sem, g0, g1]) rfl ⟨⟨_, rfl, ?_, HF.out⟩, HKg.out.2.2⟩
  have HVo := HVg.out
  rw [← HM.out] at HVo ⊢
  simpa [HP.out] using HVo
 | some A =>
  refine zJ (fun w' => zL w w' ([] ++ [.cells #[.int .i64 v, .slice (some A) L.length cap] 164] ++ [.cells #[.int .i64 id] 3])) [0, 1, 2, 3, 4, 5, 6, 7, 8, 9, 11, 12, 13, 14, 15] 5 (by rfl) (by kernel_rfl) (by kernel_rfl) (by kernel_rfl) (fun c d v a w h => by cases d <;> exact h) ?_ ?_
  ·exact (HB3.out.on (Below.refl _ _).drew).sub
  refine zB (.pointer (some ⟨w.heap.size, 0, none⟩)) rfl rfl (fun w' hS => ?_) ?_
  ·have x0 := hS.cell 0 0 w.heap.size _ _ _ rfl rfl rfl
   have x1 := hS.cell 0 1 w.heap.size _ _ _ rfl rfl rfl
   have y0 := hS.cell 1 0 (w.heap.size + 1) _ _ _ rfl rfl rfl
   go_simp
   try (intro h; omega)
  refine zB (.pointer (some ⟨w.heap.size, 0, none⟩)) rfl rfl (fun w' hS => ?_) ?_
  ·have x0 := hS.cell 0 0 w.heap.size _ _ _ rfl rfl rfl
   have x1 := hS.cell 0 1 w.heap.size _ _ _ rfl rfl rfl
   have y0 := hS.cell 1 0 (w.heap.size + 1) _ _ _ rfl rfl rfl
   go_simp
   try (intro h; omega)
  refine zB (.int .i64 v) rfl rfl (fun w' hS => ?_) ?_
  ·have x0 := hS.cell 0 0 w.heap.size _ _ _ rfl rfl rfl
   have x1 := hS.cell 0 1 w.heap.size _ _ _ rfl rfl rfl
   have y0 := hS.cell 1 0 (w.heap.size + 1) _ _ _ rfl rfl rfl
   go_simp
   try (intro h; omega)
  refine zB (.int .i64 (v + 1)) rfl rfl (fun w' hS => ?_) ?_
  ·have x0 := hS.cell 0 0 w.heap.size _ _ _ rfl rfl rfl
   have x1 := hS.cell 0 1 w.heap.size _ _ _ rfl rfl rfl
   have y0 := hS.cell 1 0 (w.heap.size + 1) _ _ _ rfl rfl rfl
   go_simp
   try (intro h; omega)
  refine zB (.pointer (some ⟨w.heap.size, 0, none⟩)) rfl rfl (fun w' hS => ?_) ?_
  ·have x0 := hS.cell 0 0 w.heap.size _ _ _ rfl rfl rfl
   have x1 := hS.cell 0 1 w.heap.size _ _ _ rfl rfl rfl
   have y0 := hS.cell 1 0 (w.heap.size + 1) _ _ _ rfl rfl rfl
   go_simp
   try (intro h; omega)
  refine zB (.pointer (some ⟨w.heap.size, 1, none⟩)) rfl rfl (fun w' hS => ?_) ?_
  ·have x0 := hS.cell 0 0 w.heap.size _ _ _ rfl rfl rfl
   have x1 := hS.cell 0 1 w.heap.size _ _ _ rfl rfl rfl
   have y0 := hS.cell 1 0 (w.heap.size + 1) _ _ _ rfl rfl rfl
   go_simp
   try (intro h; omega)
  refine zB (.slice (some A) L.length cap) rfl rfl (fun w' hS => ?_) ?_
  ·have x0 := hS.cell 0 0 w.heap.size _ _ _ rfl rfl rfl
   have x1 := hS.cell 0 1 w.heap.size _ _ _ rfl rfl rfl
   have y0 := hS.cell 1 0 (w.heap.size + 1) _ _ _ rfl rfl rfl
   go_simp
   try (intro h; omega)
  refine zB (.int .i64 (pos : Int)) rfl rfl (fun w' hS => ?_) ?_
  ·have x0 := hS.cell 0 0 w.heap.size _ _ _ rfl rfl rfl
   have x1 := hS.cell 0 1 w.heap.size _ _ _ rfl rfl rfl
   have y0 := hS.cell 1 0 (w.heap.size + 1) _ _ _ rfl rfl rfl
   go_simp
   try (intro h; omega)
  refine zB (.slice (some A) pos cap) rfl rfl (fun w' hS => ?_) ?_
  ·have x0 := hS.cell 0 0 w.heap.size _ _ _ rfl rfl rfl
   have x1 := hS.cell 0 1 w.heap.size _ _ _ rfl rfl rfl
   have y0 := hS.cell 1 0 (w.heap.size + 1) _ _ _ rfl rfl rfl
   go_simp
   try (intro h; omega)
  refine zB (.int .i64 id) rfl rfl (fun w' hS => ?_) ?_
  ·have x0 := hS.cell 0 0 w.heap.size _ _ _ rfl rfl rfl
   have x1 := hS.cell 0 1 w.heap.size _ _ _ rfl rfl rfl
   have y0 := hS.cell 1 0 (w.heap.size + 1) _ _ _ rfl rfl rfl
   go_simp
   try (intro h; omega)
  refine zB (.pointer (some ⟨w.heap.size, 0, none⟩)) rfl rfl (fun w' hS => ?_) ?_
  ·have x0 := hS.cell 0 0 w.heap.size _ _ _ rfl rfl rfl
   have x1 := hS.cell 0 1 w.heap.size _ _ _ rfl rfl rfl
   have y0 := hS.cell 1 0 (w.heap.size + 1) _ _ _ rfl rfl rfl
   go_simp
   try (intro h; omega)
  refine zB (.pointer (some ⟨w.heap.size, 1, none⟩)) rfl rfl (fun w' hS => ?_) ?_
  ·have x0 := hS.cell 0 0 w.heap.size _ _ _ rfl rfl rfl
   have x1 := hS.cell 0 1 w.heap.size _ _ _ rfl rfl rfl
   have y0 := hS.cell 1 0 (w.heap.size + 1) _ _ _ rfl rfl rfl
   go_simp
   try (intro h; omega)
  refine zB (.slice (some A) L.length cap) rfl rfl (fun w' hS => ?_) ?_
  ·have x0 := hS.cell 0 0 w.heap.size _ _ _ rfl rfl rfl
   have x1 := hS.cell 0 1 w.heap.size _ _ _ rfl rfl rfl
   have y0 := hS.cell 1 0 (w.heap.size + 1) _ _ _ rfl rfl rfl
   go_simp
   try (intro h; omega)
  refine zB (.int .i64 (pos : Int)) rfl rfl (fun w' hS => ?_) ?_
  ·have x0 := hS.cell 0 0 w.heap.size _ _ _ rfl rfl rfl
   have x1 := hS.cell 0 1 w.heap.size _ _ _ rfl rfl rfl
   have y0 := hS.cell 1 0 (w.heap.size + 1) _ _ _ rfl rfl rfl
   go_simp
   try (intro h; omega)
  refine zB (.slice (if cap = pos then some A else some (A.add pos)) (L.length - pos) (cap - pos)) rfl rfl (fun w' hS => ?_) ?_
  ·have x0 := hS.cell 0 0 w.heap.size _ _ _ rfl rfl rfl
   have x1 := hS.cell 0 1 w.heap.size _ _ _ rfl rfl rfl
   have y0 := hS.cell 1 0 (w.heap.size + 1) _ _ _ rfl rfl rfl
   go_simp
   try (intro h; omega)
  refine zE ?_
  have HD := zA (fun W (h : zH W (some A) L) => h.drop pos cap hcap)
  have HDn : Hid ((if cap = pos then some A else some (A.add pos)) = none → cap - pos = 0) := zA (fun h => by split at h <;> cases h)
  generalize (if cap = pos then some A else some (A.add pos)) = oD at HD HDn ⊢
  have HBa := zA (HB3.out.on ((Below.refl w3.heap.size w3).drew))
  clear HB3
  generalize w3.drew = wa at *
  refine oR 10 rfl rfl fun K hK => ?_
  go_simp
  have HBb := zA (HBa.out.on ((Below.refl wa.heap.size wa).alloc (Nat.le_refl _) (.cells #[.int .i64 id] 3)))
  have HKb : Hid ((wa.alloc (.cells #[.int .i64 id] 3)).cell? ⟨wa.heap.size, 0, none⟩ = some (.int .i64 id)) := zA (by simp [go_sem])
  refine hK _ _ HBb.out.sub ?_
  clear hK K HBa
  generalize wa.alloc (.cells #[.int .i64 id] 3) = wb at *
  refine oR 16 rfl rfl fun K hK => ?_
  go_simp
  have hbw := (Below.refl wb.heap.size wb).alloc (Nat.le_refl _) (.cells #[.slice (some A) pos cap, .slice (some ⟨wa.heap.size, 0, none⟩) 1 1, .slice oD (L.length - pos) (cap - pos)] 24)
  have HBc := zA (HBb.out.on hbw)
  have HPc : Hid (PiecesV (wb.alloc (.cells #[.slice (some A) pos cap, .slice (some ⟨wa.heap.size, 0, none⟩) 1 1, .slice oD (L.length - pos) (cap - pos)] 24)) ⟨wb.heap.size, 0, none⟩ [((some A), L.take pos, cap), (some ⟨wa.heap.size, 0, none⟩, [id], 1), (oD, L.drop pos, cap - pos)]) := by
   have hTw := HL.out.below HBc.out.2.2
   have hT6 : (wb.alloc (.cells #[.slice (some A) pos cap, .slice (some ⟨wa.heap.size, 0, none⟩) 1 1, .slice oD (L.length - pos) (cap - pos)] 24)).cell? ⟨wa.heap.size, 0, none⟩ = some (.int .i64 id) := by rw [hbw.cell (World.block_lt_of_cell? wb _ HKb.out)]; exact HKb.out
   intro q o L' cap' hq
   match q, hq with
   | 0, hq =>
    simp at hq
    obtain ⟨rfl, rfl, rfl⟩ := hq
    refine ⟨?_, hTw.takeD pos, fun h => by cases h⟩
    rw [List.length_take, Nat.min_eq_left hpos]
    simp [Addr.add, go_sem]
   | 1, hq =>
    simp at hq
    obtain ⟨rfl, rfl, rfl⟩ := hq
    exact ⟨by simp [Addr.add, go_sem], intsAt_single hT6, fun h => by cases h⟩
   | 2, hq =>
    simp at hq
    obtain ⟨rfl, rfl, rfl⟩ := hq
    refine ⟨?_, HD.out _ hTw, HDn.out⟩
    rw [List.length_drop]
    simp [Addr.add, go_sem]
   | q + 3, hq => simp at hq
  refine hK _ _ HBc.out.sub ?_
  clear hK K HBb HKb hbw
  generalize wb.alloc (.cells #[.slice (some A) pos cap, .slice (some ⟨wa.heap.size, 0, none⟩) 1 1, .slice oD (L.length - pos) (cap - pos)] 24) = wc at *
  refine oR 17 rfl rfl fun K hK => ?_
  go_simp
  refine (concatV_any _ _ 3 wc HPc.out (by simp) (by simp [xO]; omega)).mono ?_
  rintro e wd ⟨⟨v1, rfl, hv1, hf1⟩, hbd⟩
  replace hv1 : zP wd v1 (L.take pos ++ [id] ++ L.drop pos) := by simpa using hv1
  generalize hM : L.take pos ++ [id] ++ L.drop pos = M at hv1
  have HM := zA hM
  clear hM
  obtain ⟨oa, ca, rfl, ha⟩ := hv1
  have hv1 : zP wd (.slice oa M.length ca) M := ⟨oa, ca, rfl, ha⟩
  clear ha
  have HBd := zA (HBc.out.on hbd)
  have hsz := HBc.out.2.1
  simp only [List.length_append, List.length_cons, List.length_nil] at hsz
  have HV1 := zA (And.intro hv1 (hf1.monoD (show w.heap.size + 1 + 1 + 1 ≤ wc.heap.size by omega)))
  clear hv1 hf1 hbd HPc HBc hsz
  refine hK _ _ HBd.out.sub ?_
  clear hK K
  refine oR 18 rfl rfl fun K hK => ?_
  go_simp
  refine hK _ _ HBd.out.sub ?_
  clear hK K
  obtain ⟨r0, r1⟩ := HBd.out.c2 2 (w.heap.size + 1 + 1) rfl rfl rfl rfl
  obtain ⟨s0, s1⟩ := HBd.out.z2 2 (w.heap.size + 1 + 1) rfl rfl
  refine oR 19 rfl rfl fun K hK => ?_
  go_simp
  have HKg := zA ((HBd.out.sub.set ⟨w.heap.size + 1 + 1, 0, none⟩ (by simp) (.int .i64 (v + 1))).set ⟨w.heap.size + 1 + 1, 1, none⟩ (by simp) (.slice oa M.length ca))
  have g0 : ((wd.setCell ⟨w.heap.size + 1 + 1, 0, none⟩ (.int .i64 (v + 1))).setCell ⟨w.heap.size + 1 + 1, 1, none⟩ (.slice oa M.length ca)).cell? ⟨w.heap.size + 1 + 1, 0, none⟩ = some (.int .i64 (v + 1)) := by simp [go_sem, r0]
  have g1 : ((wd.setCell ⟨w.heap.size + 1 + 1, 0, none⟩ (.int .i64 (v + 1))).setCell ⟨w.heap.size + 1 + 1, 1, none⟩ (.slice oa M.length ca)).cell? ⟨w.heap.size + 1 + 1, 1, none⟩ = some (.slice oa M.length ca) := by simp [go_sem, r1]
  have HVg := zA ((HV1.out.1.setD HV1.out.2 (p := ⟨w.heap.size + 1 + 1, 0, none⟩) (by simp) (.int .i64 (v + 1))).setD HV1.out.2 (p := ⟨w.heap.size + 1 + 1, 1, none⟩) (by simp) (.slice oa M.length ca))
  have HF := zA (HV1.out.2.monoD (show w.heap.size ≤ w.heap.size + 1 + 1 + 1 by omega))
  refine hK _ _ HKg.out ?_
  clear hK K HV1 HBd r0 r1 s0 s1
  generalize (wd.setCell ⟨w.heap.size + 1 + 1, 0, none⟩ (.int .i64 (v + 1))).setCell ⟨w.heap.size + 1 + 1, 1, none⟩ (.slice oa M.length ca) = wg at *
  refine wpAnyH_done (by kernel_rfl) ?_ _
  go_wp2_with fail
  refine bodyPost_ret (v := .agg #[.int .i64 (v + 1), .slice oa M.length ca]) (by simp [results, Tryz.results148, go_sem, g0, g1]) rfl ⟨⟨_, rfl, ?_, HF.out⟩, HKg.out.2.2⟩
  have HVo := HVg.out
  rw [← HM.out] at HVo ⊢
  simpa [HP.out] using HVo
def fullD (v : Int) (L : List Int) : Bool := ((L.length : Int) == 12) || (v == 999)
theorem fullD_any (v : Int) (L : List Int) (o : Option Addr) (c : Nat) (w : World) :
  Calls Tryz.prog 147 #[dn v o L.length c] w fun e w' => e = .returned (.bool (fullD v L)) ∧ Below w.heap.size w w' := by
 unfold fullD
 cases h : ((L.length : Int) == 12)
 all_goals
  go_enter Tryz.func147, Tryz.ntmps147
  go_wp2
  go_ret
  exact ⟨by simp, (Below.refl _ _).alloc (Nat.le_refl _) _⟩
def addE (v : Int) (L : List Int) (id : Int) : Int := if unfD v L id = 0 then (if xQ L id = true then 6 else if fullD v L = true then 2 else 0) else unfD v L id
theorem addE_ways (v : Int) (L : List Int) (id : Int) : ((unfD v L id != 0) = true ∧ addE v L id = unfD v L id) ∨ (unfD v L id = 0 ∧ xQ L id = true ∧ addE v L id = 6) ∨ (unfD v L id = 0 ∧ xQ L id = false ∧ fullD v L = true ∧ addE v L id = 2) ∨ (unfD v L id = 0 ∧ xQ L id = false ∧ fullD v L = false ∧ addE v L id = 0) := by
 rw [addE]
 by_cases h : unfD v L id = 0
 ·right
  cases xQ L id <;> cases fullD v L <;> simp [h]
 ·left; simp [h]
theorem yE {v : Int} {L : List Int} (h : yZ v L = 0) : 0 ≤ v ∧ v ≤ 999 ∧ L.length ≤ 12 ∧ errD 0 L = 0 ∧ (L.length : Int) ≤ v := by
 rcases chkD_ways v L with h1 | h1 | h1 | h1 | h1
 ·omega
 ·omega
 ·exact absurd (h1.2.2.2.symm.trans h) h1.2.2.1
 ·omega
 ·have := (yO _ _ _).1 h1.1
  exact ⟨this.1, this.2, by omega, h1.2.2.1, by omega⟩
theorem unfD_right {v : Int} {L : List Int} {id : Int} (h : unfD v L id = 0) : yZ v L = 0 ∧ wi id 1 9999 = true := by
 rcases unfD_ways v L id with ⟨h1, h2⟩ | ⟨h1, h2, h3⟩ | ⟨h1, h2, h3⟩
 ·rw [h2] at h
  rw [h] at h1
  cases h1
 ·omega
 ·exact ⟨h1, h2⟩
def DenF (B : Nat) (w : World) (v : Value) (n : Int) (L : List Int) : Prop := ∃ u, v = .agg #[.int .i64 n, u] ∧ zP w u L ∧ zK B u
theorem denF_none (B : Nat) (w : World) : DenF B w (dn 0 none 0 0) 0 [] := ⟨_, rfl, ⟨none, 0, rfl, fun i p h => by simp at h, by simp, fun _ => rfl⟩, fun k hk => by simp [Value.ownBlock] at hk⟩
theorem addF_any (v id : Int) (L : List Int) (o : Option Addr) (cap : Nat) (w : World) (hL : zH w o L) (hlen : L.length ≤ 9223372036854775807) (hcap : L.length ≤ cap) (hnone : o = none → cap = 0) :
    Calls Tryz.prog 115 #[dn v o L.length cap, .int .i64 id] w fun e w' =>
      (∃ u, e = .returned (.tuple #[u, .int .i64 (addE v L id)]) ∧ DenF w.heap.size w' u (if addE v L id = 0 then v + 1 else 0) (if addE v L id = 0 then addI L id else [])) ∧ Below w.heap.size w w' := by
  have HB := zA (((zL.nil w).more (.cells #[.int .i64 v, .slice o L.length cap] 28) (by simp)).more (.cells #[.int .i64 0, .slice none 0 0] 28) (by simp))
  have HU := zA (fun W (h1 : zH W o L) => denUnfit_any v L o cap id W h1 hlen)
  have HH := zA (fun W (h1 : zH W o L) => denHas_any v id L o cap W h1 hlen)
  have HF := zA (fun W => fullD_any v L o cap W)
  have HW := zA (fun W (h1 : zH W o L) (h2 : unfD v L id = 0) => with_any v id L o cap W h1 (yE (unfD_right h2).1).2.2.1 hcap hnone (yE (unfD_right h2).1).1 (yE (unfD_right h2).1).2.1)
  have HL := zA hL
  have hp := addE_ways v L id
  generalize addE v L id = E at *
  generalize unfD v L id = X at *
  generalize xQ L id = Y at *
  generalize fullD v L = Z at *
  generalize addI L id = M at *
  clear hL
  rcases hp with ⟨h1, rfl⟩ | ⟨rfl, rfl, rfl⟩ | ⟨rfl, rfl, rfl, rfl⟩ | ⟨rfl, rfl, rfl, rfl⟩
  all_goals first
    | rw [if_pos rfl, if_pos rfl]
    | rw [if_neg (show ¬ (6 : Int) = 0 by decide), if_neg (show ¬ (6 : Int) = 0 by decide)]
    | rw [if_neg (show ¬ (2 : Int) = 0 by decide), if_neg (show ¬ (2 : Int) = 0 by decide)]
    | (have hE : ¬ E = 0 := by simpa using h1
       rw [if_neg hE, if_neg hE]
       clear hE)
  all_goals
    go_enter Tryz.func115, Tryz.ntmps115
    go_wp2_with fail
    refine (HU.out _ (HL.out.below HB.out.2.2)).mono ?_
    rintro e w1 ⟨rfl, hb1⟩
    have HB1 := zA (HB.out.on hb1)
    clear hb1 HB
    obtain ⟨x0, x1⟩ := HB1.out.c2 0 w.heap.size rfl rfl rfl rfl
    obtain ⟨r0, r1⟩ := HB1.out.c2 1 (w.heap.size + 1) rfl rfl rfl rfl
    obtain ⟨s0, s1⟩ := HB1.out.z2 1 (w.heap.size + 1) rfl rfl
    go_wp2_with fail
  · refine bodyPost_ret (v := .tuple #[dn 0 none 0 0, .int .i64 E]) (by simp [results, Tryz.results115, go_sem, *]) rfl ⟨⟨_, rfl, ?_⟩, ?_⟩
    · exact denF_none _ _
    · repeat (first | with_reducible refine Below.setCell ?_ (by simp; try omega) _ | exact HB1.out.2.2)
  all_goals
    have HK := zA ((zL.nil w1).more (.cells #[.int .i64 v, .slice o L.length cap] 164) (by simp))
    refine (HH.out _ (HL.out.below (HB1.out.on HK.out.2.2).2.2)).mono ?_
    rintro e w2 ⟨rfl, hb2⟩
    have HK2 := zA (HK.out.on hb2)
    have HB2 := zA (HB1.out.on HK2.out.2.2)
    clear hb2 HB1 HK x0 x1 r0 r1 s0 s1
    obtain ⟨x0, x1⟩ := HK2.out.c2 0 w1.heap.size rfl rfl rfl rfl
    obtain ⟨r0, r1⟩ := HB2.out.c2 1 (w.heap.size + 1) rfl rfl rfl rfl
    obtain ⟨s0, s1⟩ := HB2.out.z2 1 (w.heap.size + 1) rfl rfl
    go_wp2_with fail
  · refine bodyPost_ret (v := .tuple #[dn 0 none 0 0, .int .i64 6]) (by simp [results, Tryz.results115, go_sem, *]) rfl ⟨⟨_, rfl, ?_⟩, ?_⟩
    · exact denF_none _ _
    · repeat (first | with_reducible refine Below.setCell ?_ (by simp; try omega) _ | exact HB2.out.2.2)
  all_goals
    refine (HF.out _).mono ?_
    rintro e w3 ⟨rfl, hb3⟩
    have HK3 := zA (HK2.out.on hb3)
    have HB3 := zA (HB2.out.on hb3)
    clear hb3 HB2 HK2 x0 x1 r0 r1 s0 s1
    obtain ⟨x0, x1⟩ := HK3.out.c2 0 w1.heap.size rfl rfl rfl rfl
    obtain ⟨r0, r1⟩ := HB3.out.c2 1 (w.heap.size + 1) rfl rfl rfl rfl
    obtain ⟨s0, s1⟩ := HB3.out.z2 1 (w.heap.size + 1) rfl rfl
    go_wp2_with fail
  · refine bodyPost_ret (v := .tuple #[dn 0 none 0 0, .int .i64 2]) (by simp [results, Tryz.results115, go_sem, *]) rfl ⟨⟨_, rfl, ?_⟩, ?_⟩
    · exact denF_none _ _
    · repeat (first | with_reducible refine Below.setCell ?_ (by simp; try omega) _ | exact HB3.out.2.2)
  · refine (HW.out _ (HL.out.below HB3.out.2.2) trivial).mono ?_
    rintro e w4 ⟨⟨u, rfl, ⟨oa, ca, rfl, ha⟩, hf⟩, hb4⟩
    have HB4 := zA (HB3.out.on hb4)
    have hsz := HB3.out.2.1
    simp only [List.length_append, List.length_cons, List.length_nil] at hsz
    have HV := zA (And.intro (show zP w4 (.slice oa M.length ca) M from ⟨oa, ca, rfl, ha⟩) (hf.monoD (show w.heap.size + 1 + 1 ≤ w3.heap.size by omega)))
    clear hb4 HB3 HK3 x0 x1 r0 r1 s0 s1 ha hf hsz
    obtain ⟨r0, r1⟩ := HB4.out.c2 1 (w.heap.size + 1) rfl rfl rfl rfl
    obtain ⟨s0, s1⟩ := HB4.out.z2 1 (w.heap.size + 1) rfl rfl
    go_wp2_with fail
    refine bodyPost_ret (v := .tuple #[.agg #[.int .i64 (v + 1), .slice oa M.length ca], .int .i64 0]) (by simp [results, Tryz.results115, go_sem, *]) rfl ⟨⟨_, rfl, ⟨_, rfl, ?_, HV.out.2.monoD (by omega)⟩⟩, ?_⟩
    · exact (HV.out.1.setD HV.out.2 (p := ⟨w.heap.size + 1, 0, none⟩) (by simp) (.int .i64 (v + 1))).setD HV.out.2 (p := ⟨w.heap.size + 1, 1, none⟩) (by simp) (.slice oa M.length ca)
    · repeat (first | with_reducible refine Below.setCell ?_ (by simp; try omega) _ | exact HB4.out.2.2)
theorem has_any (v id : Int) (L : List Int) (o : Option Addr) (cap : Nat) (w : World) (hL : zH w o L) (hlen : L.length ≤ 9223372036854775807) :
  Calls Tryz.prog 151 #[dn v o L.length cap, .int .i64 id] w fun e w' => e = .returned (.tuple #[.bool (decide (unfD v L id = 0) && xQ L id), .int .i64 (unfD v L id)]) ∧ Below w.heap.size w w' := by
 have HB := zA ((zL.nil w).more (.cells #[.int .i64 v, .slice o L.length cap] 28) (by simp))
 have HU := zA (fun W (h1 : zH W o L) => denUnfit_any v L o cap id W h1 hlen)
 have HH := zA (fun W (h1 : zH W o L) => denHas_any v id L o cap W h1 hlen)
 have HL := zA hL
 generalize unfD v L id = X at *
 generalize xQ L id = Y at *
 clear hL
 by_cases hX : X = 0
 ·subst hX
  simp only [decide_true, Bool.true_and]
  go_enter Tryz.func151, Tryz.ntmps151
  go_wp2_with fail
  refine (HU.out _ (HL.out.below HB.out.2.2)).mono ?_
  rintro e w1 ⟨rfl, hb1⟩
  have HB1 := zA (HB.out.on hb1)
  clear hb1 HB
  obtain ⟨x0, x1⟩ := HB1.out.c2 0 w.heap.size rfl rfl rfl rfl
  go_wp2_with fail
  refine (HH.out _ (HL.out.below HB1.out.2.2)).mono ?_
  rintro e w2 ⟨rfl, hb2⟩
  have HB2 := zA (HB1.out.on hb2)
  clear hb2 HB1 x0 x1
  go_wp2_with fail
  go_ret2
  exact ⟨rfl, HB2.out.2.2⟩
 ·have h1 : (X != 0) = true := by simpa using hX
  rw [decide_eq_false hX, Bool.false_and]
  clear hX
  go_enter Tryz.func151, Tryz.ntmps151
  go_wp2_with fail
  refine (HU.out _ (HL.out.below HB.out.2.2)).mono ?_
  rintro e w1 ⟨rfl, hb1⟩
  have HB1 := zA (HB.out.on hb1)
  clear hb1 HB
  go_wp2_with fail
  go_ret2
  exact ⟨rfl, HB1.out.2.2⟩
abbrev cG (i z s : Int) (oa : Option Addr) (na ca : Nat) (v : Int) (od : Option Addr) (nd cd : Nat) (l u : Int) (T : TypeId) : Obj := .cells #[.int .i64 i, .int .i64 z, .int .i64 s, .slice oa na ca, .int .i64 v, .slice od nd cd, .int .i64 l, .int .i64 u] T
def errS (i z s : Int) (n : Nat) : Int := if (wi i 0 2 && wi s 0 99) = false then 3 else if isZ z = false then 9 else if 12 < n then 2 else 0
theorem checkSelf_any (i z s : Int) (oa : Option Addr) (na ca : Nat) (v : Int) (od : Option Addr) (nd cd : Nat) (l u : Int) (w : World) :
  Calls Tryz.prog 129 #[gtV i z s oa na ca v od nd cd l u] w fun e w' => e = .returned (.int .i64 (errS i z s na)) ∧ Below w.heap.size w w' := by
 generalize hE : errS i z s na = E
 have hp : (wi i 0 2 = false ∧ E = 3) ∨ (wi i 0 2 = true ∧ wi s 0 99 = false ∧ E = 3) ∨ (wi i 0 2 = true ∧ wi s 0 99 = true ∧ isZ z = false ∧ E = 9) ∨ (wi i 0 2 = true ∧ wi s 0 99 = true ∧ isZ z = true ∧ 12 < na ∧ E = 2) ∨ (wi i 0 2 = true ∧ wi s 0 99 = true ∧ isZ z = true ∧ ¬ 12 < na ∧ E = 0) := by
  rw [← hE, errS]
  cases wi i 0 2 <;> cases wi s 0 99 <;> cases isZ z <;> by_cases h : 12 < na <;> simp [h]
 clear hE
 rcases hp with ⟨h1, rfl⟩ | ⟨h1, h2, rfl⟩ | ⟨h1, h2, h3, rfl⟩ | ⟨h1, h2, h3, h4, rfl⟩ | ⟨h1, h2, h3, h4, rfl⟩
 all_goals
  go_enter Tryz.func129, Tryz.ntmps129
  go_wp2_with first | (go_at_call 70; refine (yD _ _ _ _).mono ?_; rintro e w' ⟨rfl, rfl⟩) | (go_at_call 161; refine (oneZone_any _ _).mono ?_; rintro e w' ⟨rfl, rfl⟩)
  go_ret
  exact ⟨by simp, (Below.refl _ _).alloc (Nat.le_refl _) _⟩
theorem owns_any (i z s : Int) (oa : Option Addr) (na ca : Nat) (v : Int) (od : Option Addr) (nd cd : Nat) (l u a g q m y : Int) (w : World) :
  Calls Tryz.prog 163 #[gtV i z s oa na ca v od nd cd l u, tp a g q m y] w fun e w' => e = .returned (.bool (g == i && y == z)) ∧ Below w.heap.size w w' := by
 cases h1 : (g == i)
 all_goals
  go_enter Tryz.func163, Tryz.ntmps163
  go_wp2
  go_ret
  exact ⟨by simp, ((Below.refl _ _).alloc (Nat.le_refl _) _).alloc (by simp) _⟩
def folB (l p : TP) : Bool := decide (l.m ≤ p.m) && (p.s == l.s + 1)
theorem follows_any (l p : TP) (w : World) (h1 : 0 ≤ l.s) (h2 : l.s ≤ 99) :
  Calls Tryz.prog 164 #[tp l.a l.g l.s l.m l.z, tp p.a p.g p.s p.m p.z] w fun e w' => e = .returned (.bool (folB l p)) ∧ Below w.heap.size w w' := by
 unfold folB
 by_cases h : l.m ≤ p.m
 all_goals
  go_enter Tryz.func164, Tryz.ntmps164
  go_wp2
  go_ret
  exact ⟨by first | (simp [h]; done) | (simp; omega), ((Below.refl _ _).alloc (Nat.le_refl _) _).alloc (by simp) _⟩
def errB (l u : Int) : Int := if (wi l 0 9 && wi u 0 10099) = true then 0 else 3
theorem checkBudget_any (i z s : Int) (oa : Option Addr) (na ca : Nat) (v : Int) (od : Option Addr) (nd cd : Nat) (l u : Int) (w : World) :
  Calls Tryz.prog 131 #[gtV i z s oa na ca v od nd cd l u] w fun e w' => e = .returned (.int .i64 (errB l u)) ∧ Below w.heap.size w w' := by
 unfold errB
 cases h1 : wi l 0 9 <;> cases h2 : wi u 0 10099
 all_goals
  simp only [Bool.and_true, Bool.and_false, Bool.false_eq_true, if_false, if_true]
  go_enter Tryz.func131, Tryz.ntmps131
  go_wp2_with (go_at_call 70; refine (yD _ _ _ _).mono ?_; rintro e w' ⟨rfl, rfl⟩)
  go_ret
  exact ⟨by simp, (Below.refl _ _).alloc (Nat.le_refl _) _⟩
def fullG (n : Nat) (s : Int) : Bool := ((n : Int) == 12) || (s == 99)
theorem fullG_any (i z s : Int) (oa : Option Addr) (na ca : Nat) (v : Int) (od : Option Addr) (nd cd : Nat) (l u : Int) (w : World) :
  Calls Tryz.prog 179 #[gtV i z s oa na ca v od nd cd l u] w fun e w' => e = .returned (.bool (fullG na s)) ∧ Below w.heap.size w w' := by
 unfold fullG
 cases h : ((na : Int) == 12)
 all_goals
  go_enter Tryz.func179, Tryz.ntmps179
  go_wp2
  go_ret
  exact ⟨by simp, (Below.refl _ _).alloc (Nat.le_refl _) _⟩
def earlyG (P : List TP) (m : Int) : Bool := match P.getLast? with
 | none => false
 | some p => decide (m < p.m)
theorem earlyG_any (i z s : Int) (oa : Option Addr) (P : List TP) (ca : Nat) (v : Int) (od : Option Addr) (nd cd : Nat) (l u m : Int) (w : World) (hP : zI w oa P) (hlen : P.length ≤ 12) :
  Calls Tryz.prog 195 #[gtV i z s oa P.length ca v od nd cd l u, .int .i64 m] w fun e w' => e = .returned (.bool (earlyG P m)) ∧ Below w.heap.size w w' := by
 rcases hn : P.length with _ | n
 ·have hL0 : P = [] := List.eq_nil_of_length_eq_zero hn
  subst hL0
  clear hP
  go_enter Tryz.func195, Tryz.ntmps195
  go_wp2
  try (go_region; go_wp2)
  go_ret
  exact ⟨by simp [earlyG], by first | exact ((Below.refl _ _).alloc (Nat.le_refl _) _).drew | exact (Below.refl _ _).alloc (Nat.le_refl _) _⟩
 ·obtain ⟨p, hp⟩ : ∃ p, P[n]? = some p := ⟨P[n]'(by omega), by simp [hn]⟩
  have HE : Hid (earlyG P m = decide (m < p.m)) := by
   show _ = _
   rw [earlyG, List.getLast?_eq_getElem?, hn, Nat.add_sub_cancel, hp]
  obtain ⟨A, rfl, h5⟩ := hP n p hp
  have hnb : n < 60 := by omega
  obtain ⟨d0, d1, d2, d3, d4⟩ := h5.below ((Below.refl w.heap.size w).alloc (Nat.le_refl _) (cG i z s (some A) (n + 1) ca v od nd cd l u 166)) h5.lt
  clear h5 hP hp hn hlen
  go_enter Tryz.func195, Tryz.ntmps195
  go_wp2
  try (go_region; go_wp2)
  go_ret
  exact ⟨by rw [HE.out]; rfl, by first | exact ((Below.refl _ _).alloc (Nat.le_refl _) _).drew | exact (Below.refl _ _).alloc (Nat.le_refl _) _⟩
theorem ite_of_not {c : Prop} [Decidable c] {a b : Prop} (hc : ¬ c) (hb : b) : if c then a else b := by
 rw [if_neg hc]
 exact hb
def okA (i z : Int) (l : Option TP) (p : TP) : Bool := (p.g == i && p.z == z) && (match l with | none => true | some y => folB y p)
def qZ (i z : Int) : Option TP → List TP → Int
 | _, [] => 0
 | l, p :: r => if yK p = 0 then (if okA i z l p = true then qZ i z (some p) r else 4) else yK p
theorem errA_ways (i z : Int) (l : Option TP) (p : TP) (r : List TP) : ((yK p != 0) = true ∧ qZ i z l (p :: r) = yK p) ∨ (yK p = 0 ∧ okA i z l p = false ∧ qZ i z l (p :: r) = 4) ∨ (yK p = 0 ∧ okA i z l p = true ∧ qZ i z l (p :: r) = qZ i z (some p) r) := by
 rw [qZ]
 by_cases h : yK p = 0
 ·right
  cases okA i z l p <;> simp [h]
 ·left; simp [h]
def errQ (s : Int) (A : List TP) : Int := match A.getLast? with
 | none => 0
 | some p => if p.s = s then 0 else 4
def qE (i z s : Int) (A : List TP) : Int := if qZ i z none A = 0 then errQ s A else qZ i z none A
theorem checkAlone_any (i z s : Int) (oa : Option Addr) (P : List TP) (ca : Nat) (v : Int) (od : Option Addr) (nd cd : Nat) (l u : Int) (w : World) (hP : zI w oa P) (hlen : P.length ≤ 12) :
    Calls Tryz.prog 130 #[gtV i z s oa P.length ca v od nd cd l u] w fun e w' => e = .returned (.int .i64 (qE i z s P)) ∧ Below w.heap.size w w' := by
  have HG := zA ((zL.nil w).more (cG i z s oa P.length ca v od nd cd l u 166) (by simp))
  have HP := zA hP
  have HA : Hid (qZ i z none P ≠ 0 → qE i z s P = qZ i z none P) := fun h => by rw [qE, if_neg h]
  have HZ : Hid (qZ i z none P = 0 → qE i z s P = errQ s P) := fun h => by rw [qE, if_pos h]
  generalize qE i z s P = R at *
  clear hP
  go_enter Tryz.func130, Tryz.ntmps130
  go_wp2_with fail
  go_loopw [11] (fun j wr => ∃ (q : Nat) (y : Option TP), q ≤ P.length ∧ j = .int .i64 q ∧ Hid (qZ i z none P = qZ i z y (P.drop q) ∧ (q = 0 → y = none) ∧ (∀ k, q = k + 1 → ∃ x, y = some x ∧ P[k]? = some x ∧ 0 ≤ x.s ∧ x.s ≤ 99)) ∧ Hid (zL w wr ([] ++ [cG i z s oa P.length ca v od nd cd l u 166]))) (fun j _ => P.length - (intOf j).toNat)
  case atStart => exact ⟨0, none, Nat.zero_le _, rfl, ⟨by simp, fun _ => rfl, fun k h => by omega⟩, HG⟩
  case round =>
    obtain ⟨q, y, hq, rfl, hE, HB⟩ := hrel
    obtain ⟨x0, x1, x2, x3⟩ := HB.out.c4 0 w.heap.size rfl rfl rfl rfl rfl rfl
    by_cases hgo : q < P.length
    · obtain ⟨p, hp⟩ : ∃ p, P[q]? = some p := ⟨P[q], by simp [hgo]⟩
      obtain ⟨A, rfl, e0, e1, e2, e3, e4⟩ := HP.out.below HB.out.2.2 q p hp
      have HX := zA hp
      have hE' := hE.out.1
      rw [drop_cons hp] at hE'
      have hw := errA_ways i z y p (P.drop (q + 1))
      rw [← hE'] at hw
      clear hE' hp
      go_wp2_with fail
      have HT := zA ((zL.nil wr).more (cP p.a p.g p.s p.m p.z 79) (by simp))
      refine (checkP_any p.a p.g p.s p.m p.z _).mono ?_
      rintro e w2 ⟨rfl, hb⟩
      have HT2 := zA (HT.out.on hb)
      have HB2 := zA (HB.out.on HT2.out.2.2)
      clear hb HT HB x0 x1 x2 x3 e0 e1 e2 e3 e4
      have hk : vB p.a p.g p.s p.m p.z = yK p := rfl
      rw [hk]
      clear hk
      have HC := zA (fun (h : yK p = 0) => chkP_right (a := p.a) (g := p.g) (s := p.s) (m := p.m) (z := p.z) h)
      generalize yK p = X at *
      rcases hw with ⟨h1, h2⟩ | h1
      · have HR := zA ((HA.out (by rw [h2]; simpa using h1)).trans h2)
        clear h2
        go_wp2_with fail
        go_ret
        exact ⟨by rw [HR.out]; rfl, HB2.out.2.2⟩
      · have hX : X = 0 := by rcases h1 with h | h <;> exact h.1
        subst hX
        have hs := (HC.out rfl).2.2.1
        replace h1 : (okA i z y p = false ∧ qZ i z none P = 4) ∨ (okA i z y p = true ∧ qZ i z none P = qZ i z (some p) (P.drop (q + 1))) := by
          rcases h1 with h | h
          · exact Or.inl h.2
          · exact Or.inr h.2
        clear HC
        go_wp2_with fail
        have x0 := cell_regrown (HB2.out.cell 0 0 w.heap.size _ _ _ rfl rfl rfl)
        have x1 := cell_regrown (HB2.out.cell 0 1 w.heap.size _ _ _ rfl rfl rfl)
        have x2 := cell_regrown (HB2.out.cell 0 2 w.heap.size _ _ _ rfl rfl rfl)
        have x3 := cell_regrown (HB2.out.cell 0 3 w.heap.size _ _ _ rfl rfl rfl)
        have x4 := cell_regrown (HB2.out.cell 0 4 w.heap.size _ _ _ rfl rfl rfl)
        have x5 := cell_regrown (HB2.out.cell 0 5 w.heap.size _ _ _ rfl rfl rfl)
        have x6 := cell_regrown (HB2.out.cell 0 6 w.heap.size _ _ _ rfl rfl rfl)
        have x7 := cell_regrown (HB2.out.cell 0 7 w.heap.size _ _ _ rfl rfl rfl)
        have t0 := cell_regrown (HT2.out.cell 0 0 wr.heap.size _ _ _ rfl rfl rfl)
        have t1 := cell_regrown (HT2.out.cell 0 1 wr.heap.size _ _ _ rfl rfl rfl)
        have t2 := cell_regrown (HT2.out.cell 0 2 wr.heap.size _ _ _ rfl rfl rfl)
        have t3 := cell_regrown (HT2.out.cell 0 3 wr.heap.size _ _ _ rfl rfl rfl)
        have t4 := cell_regrown (HT2.out.cell 0 4 wr.heap.size _ _ _ rfl rfl rfl)
        have cO : ∀ d os, Calls Tryz.prog 163 #[gtV i z s (some A) P.length ca v od nd cd l u, tp p.a p.g p.s p.m p.z] (Sort.grow (redrawn w2 d) os) fun e w'' => e = .returned (.bool (p.g == i && p.z == z)) ∧ ∃ p : Regrown, w'' = Sort.grow (redrawn w2 p.d) p.os :=
          fun d os => Calls.regrown_of (owns_any i z s (some A) P.length ca v od nd cd l u p.a p.g p.s p.m p.z _)
        cases ho : (p.g == i && p.z == z)
        · have h4 : qZ i z none P = 4 := by
            rcases h1 with h | h
            · exact h.2
            · simp [okA, ho] at h
          have HR := zA ((HA.out (by rw [h4]; decide)).trans h4)
          clear h1 h4
          rw [ho] at cO
          clear ho
          refine wp_region_quiet_below (by kernel_rfl) (by kernel_rfl) ?_
          iterate 20
            refine wpQuiet_step (fun K hK => ?_)
            try subst hact
            go_simp
            try refine ite_of_not (by intro h; cases h) ?_
            first
              | (generalize hact : ({ tmps := _, defers := _ } : Act) = aa
                 refine hK aa ?_
                 clear hK K)
              | (apply Exists.intro
                 refine ⟨fun _ => ?_, ?_⟩
                 first | exact cO _ _
                 generalize hact : ({ tmps := _, defers := _ } : Act) = aa
                 refine hK aa ?_
                 clear hK K)
          try subst hact
          refine wpQuiet_nil ?_
          intro _ hw'
          obtain ⟨⟨dq, osq⟩, hw''⟩ := hw'
          subst hw''
          have HB3 := zA (HB2.out.on (below_regrown w2 dq osq))
          clear x0 x1 x2 x3 x4 x5 x6 x7 t0 t1 t2 t3 t4 cO HB2 HT2
          go_wp2_with fail
          go_ret
          exact ⟨by rw [HR.out]; rfl, HB3.out.2.2⟩
        · rw [ho] at cO
          have HO := zA ho
          have H1 := zA h1
          clear ho h1
          rcases q with _ | k
          · obtain rfl : y = none := hE.out.2.1 rfl
            have HN : Hid (qZ i z none P = qZ i z (some p) (P.drop (0 + 1)) ∧ (0 + 1 = 0 → some p = none) ∧ (∀ k, 0 + 1 = k + 1 → ∃ x, some p = some x ∧ P[k]? = some x ∧ 0 ≤ x.s ∧ x.s ≤ 99)) := by
              refine ⟨?_, fun h => by omega, fun k hk => ⟨p, rfl, ?_, by omega, by omega⟩⟩
              · rcases H1.out with h | h
                · simp [okA, HO.out] at h
                · exact h.2
              · obtain rfl : k = 0 := by omega
                exact HX.out
            clear H1 HO hE
            refine wp_region_quiet_below (by kernel_rfl) (by kernel_rfl) ?_
            iterate 20
              refine wpQuiet_step (fun K hK => ?_)
              try subst hact
              go_simp
              try refine ite_of_not (by intro h; cases h) ?_
              first
                | (generalize hact : ({ tmps := _, defers := _ } : Act) = aa
                   refine hK aa ?_
                   clear hK K)
                | (apply Exists.intro
                   refine ⟨fun _ => ?_, ?_⟩
                   first | exact cO _ _
                   generalize hact : ({ tmps := _, defers := _ } : Act) = aa
                   refine hK aa ?_
                   clear hK K)
            try subst hact
            refine wpQuiet_nil ?_
            intro _ hw'
            obtain ⟨⟨dq, osq⟩, hw''⟩ := hw'
            subst hw''
            have HB3 := zA (HB2.out.on (below_regrown w2 dq osq))
            clear x0 x1 x2 x3 x4 x5 x6 x7 t0 t1 t2 t3 t4 cO HB2 HT2
            go_wp2_with fail
            exact ⟨⟨0 + 1, some p, by omega, by simp, HN, HB3⟩, by simp [intOf]; omega⟩
          · obtain ⟨x, rfl, hx, hs0, hs1⟩ := hE.out.2.2 k rfl
            obtain ⟨A', hA', f0, f1, f2, f3, f4⟩ := HP.out.below HB2.out.2.2 k x hx
            cases hA'
            have y0 := cell_regrown f0
            have y1 := cell_regrown f1
            have y2 := cell_regrown f2
            have y3 := cell_regrown f3
            have y4 := cell_regrown f4
            have cF : ∀ d os, Calls Tryz.prog 164 #[tp x.a x.g x.s x.m x.z, tp p.a p.g p.s p.m p.z] (Sort.grow (redrawn w2 d) os) fun e w'' => e = .returned (.bool (folB x p)) ∧ ∃ p : Regrown, w'' = Sort.grow (redrawn w2 p.d) p.os :=
              fun d os => Calls.regrown_of (follows_any x p _ hs0 hs1)
            have HX' := zA hx
            clear f0 f1 f2 f3 f4 hx
            have hwk : IntKind.i64.wrap (k : Int) = (k : Int) := by rw [IntKind.wrap_i64]; omega
            have hk0 : (0 : Int) ≤ (k : Int) := by omega
            have hkl : (k : Int) < (P.length : Int) := by omega
            cases hf : folB x p
            all_goals
              rw [hf] at cF
              have HF := zA hf
              clear hf
            · have h4 : qZ i z none P = 4 := by
                rcases H1.out with h | h
                · exact h.2
                · simp [okA, HO.out, HF.out] at h
              have HR := zA ((HA.out (by rw [h4]; decide)).trans h4)
              clear H1 HO h4 hE HF
              refine wp_region_quiet_below (by kernel_rfl) (by kernel_rfl) ?_
              iterate 20
                refine wpQuiet_step (fun K hK => ?_)
                try subst hact
                go_simp
                try refine ite_of_not (by intro h; cases h) ?_
                first
                  | (generalize hact : ({ tmps := _, defers := _ } : Act) = aa
                     refine hK aa ?_
                     clear hK K)
                  | (apply Exists.intro
                     refine ⟨fun _ => ?_, ?_⟩
                     first | exact cO _ _ | exact cF _ _
                     generalize hact : ({ tmps := _, defers := _ } : Act) = aa
                     refine hK aa ?_
                     clear hK K)
              try subst hact
              refine wpQuiet_nil ?_
              intro _ hw'
              obtain ⟨⟨dq, osq⟩, hw''⟩ := hw'
              subst hw''
              have HB3 := zA (HB2.out.on (below_regrown w2 dq osq))
              clear x0 x1 x2 x3 x4 x5 x6 x7 t0 t1 t2 t3 t4 cO cF HB2 HT2
              go_wp2_with fail
              go_ret
              exact ⟨by rw [HR.out]; rfl, HB3.out.2.2⟩
            · have HN : Hid (qZ i z none P = qZ i z (some p) (P.drop (k + 1 + 1)) ∧ (k + 1 + 1 = 0 → some p = none) ∧ (∀ j, k + 1 + 1 = j + 1 → ∃ x, some p = some x ∧ P[j]? = some x ∧ 0 ≤ x.s ∧ x.s ≤ 99)) := by
                refine ⟨?_, fun h => by omega, fun j hj => ⟨p, rfl, ?_, by omega, by omega⟩⟩
                · rcases H1.out with h | h
                  · simp [okA, HO.out, HF.out] at h
                  · exact h.2
                · obtain rfl : j = k + 1 := by omega
                  exact HX.out
              clear H1 HO hE
              refine wp_region_quiet_below (by kernel_rfl) (by kernel_rfl) ?_
              iterate 20
                refine wpQuiet_step (fun K hK => ?_)
                try subst hact
                go_simp
                try refine ite_of_not (by intro h; cases h) ?_
                first
                  | (generalize hact : ({ tmps := _, defers := _ } : Act) = aa
                     refine hK aa ?_
                     clear hK K)
                  | (apply Exists.intro
                     refine ⟨fun _ => ?_, ?_⟩
                     first | exact cO _ _ | exact cF _ _
                     generalize hact : ({ tmps := _, defers := _ } : Act) = aa
                     refine hK aa ?_
                     clear hK K)
              try subst hact
              refine wpQuiet_nil ?_
              intro _ hw'
              obtain ⟨⟨dq, osq⟩, hw''⟩ := hw'
              subst hw''
              have HB3 := zA (HB2.out.on (below_regrown w2 dq osq))
              clear x0 x1 x2 x3 x4 x5 x6 x7 t0 t1 t2 t3 t4 cO cF HB2 HT2
              go_wp2_with fail
              exact ⟨⟨k + 1 + 1, some p, by omega, by simp, HN, HB3⟩, by simp [intOf]; omega⟩
    · have hE' := hE.out.1
      rw [List.drop_of_length_le (by omega)] at hE'
      have HR := zA (HZ.out hE')
      clear hE' hE
      rcases hn : P.length with _ | n
      · have hL0 : P = [] := List.eq_nil_of_length_eq_zero hn
        subst hL0
        have H0 : Hid (errQ s [] = 0) := rfl
        simp only [List.length_nil] at x3 HB hq hgo ⊢
        obtain rfl : q = 0 := by omega
        go_wp2_with fail
        go_region
        go_wp2_with fail
        go_ret
        exact ⟨by rw [HR.out, H0.out]; rfl, (HB.out.on (Below.refl _ _).drew).2.2⟩
      · obtain ⟨x, hx⟩ : ∃ x, P[n]? = some x := ⟨P[n]'(by omega), by simp [hn]⟩
        have HQ : Hid (errQ s P = if x.s = s then 0 else 4) := by
          show _ = _
          rw [errQ, List.getLast?_eq_getElem?, hn, Nat.add_sub_cancel, hx]
        obtain ⟨A, rfl, e0, e1, e2, e3, e4⟩ := HP.out.below HB.out.2.2 n x hx
        clear hx
        rw [hn] at x3 hq hgo hlen HB
        obtain rfl : q = n + 1 := by omega
        by_cases hs : x.s = s
        · have h0 : (x.s != s) = false := by simpa using hs
          have HF := zA (HR.out.trans (HQ.out.trans (if_pos hs)))
          clear hs
          go_wp2_with fail
          go_region
          go_wp2_with fail
          go_ret
          exact ⟨by rw [HF.out]; rfl, (HB.out.on (Below.refl _ _).drew).2.2⟩
        · have h0 : (x.s != s) = true := by simpa using hs
          have HF := zA (HR.out.trans (HQ.out.trans (if_neg hs)))
          clear hs
          go_wp2_with fail
          go_region
          go_wp2_with fail
          go_ret
          exact ⟨by rw [HF.out]; rfl, (HB.out.on (Below.refl _ _).drew).2.2⟩
def xH (i z s : Int) (P : List TP) (v : Int) (D : List Int) (l u : Int) : Int := if errS i z s P.length = 0 then (if qE i z s P = 0 then (if yZ v D = 0 then errB l u else yZ v D) else qE i z s P) else errS i z s P.length
theorem chkG_ways (i z s : Int) (P : List TP) (v : Int) (D : List Int) (l u : Int) : ((errS i z s P.length != 0) = true ∧ xH i z s P v D l u = errS i z s P.length) ∨ (errS i z s P.length = 0 ∧ (qE i z s P != 0) = true ∧ xH i z s P v D l u = qE i z s P) ∨
  (errS i z s P.length = 0 ∧ qE i z s P = 0 ∧ (yZ v D != 0) = true ∧ xH i z s P v D l u = yZ v D) ∨ (errS i z s P.length = 0 ∧ qE i z s P = 0 ∧ yZ v D = 0 ∧ xH i z s P v D l u = errB l u) := by
 rw [xH]
 by_cases h1 : errS i z s P.length = 0
 ·by_cases h2 : qE i z s P = 0
  ·by_cases h3 : yZ v D = 0
   ·simp [h1, h2, h3]
   ·simp [h1, h2, h3]
  ·simp [h1, h2]
 ·simp [h1]
theorem errS_right {i z s : Int} {n : Nat} (h : errS i z s n = 0) : (0 ≤ i ∧ i ≤ 2) ∧ (0 ≤ s ∧ s ≤ 99) ∧ isZ z = true ∧ n ≤ 12 := by
 rw [errS] at h
 split at h
 ·cases h
 ·rename_i h1
  split at h
  ·cases h
  ·rename_i h2
   split at h
   ·cases h
   ·rename_i h3
    have h1' : (wi i 0 2 && wi s 0 99) = true := by simpa using h1
    rw [Bool.and_eq_true, yO, yO] at h1'
    exact ⟨h1'.1, h1'.2, by simpa using h2, by omega⟩
theorem gateCheck_any (i z s : Int) (oa : Option Addr) (P : List TP) (ca : Nat) (v : Int) (od : Option Addr) (D : List Int) (cd : Nat) (l u : Int) (w : World) (hP : zI w oa P) (hD : zH w od D) (hlD : D.length ≤ 9223372036854775807) :
  Calls Tryz.prog 100 #[gtV i z s oa P.length ca v od D.length cd l u] w fun e w' => e = .returned (.int .i64 (xH i z s P v D l u)) ∧ Below w.heap.size w w' := by
 have HS := zA (fun W => checkSelf_any i z s oa P.length ca v od D.length cd l u W)
 have HA := zA (fun W (h0 : errS i z s P.length = 0) (h : zI W oa P) => checkAlone_any i z s oa P ca v od D.length cd l u W h (errS_right h0).2.2.2)
 have HC := zA (fun W (h : zH W od D) => denCheck_any v D od cd W h hlD)
 have HU := zA (fun W => checkBudget_any i z s oa P.length ca v od D.length cd l u W)
 have HP := zA hP
 have HD := zA hD
 have hp := chkG_ways i z s P v D l u
 generalize xH i z s P v D l u = E at *
 generalize errS i z s P.length = X1 at *
 generalize qE i z s P = X2 at *
 generalize yZ v D = X3 at *
 generalize errB l u = X4 at *
 clear hP hD
 rcases hp with ⟨h1, rfl⟩ | ⟨rfl, h1, rfl⟩ | ⟨rfl, rfl, h1, rfl⟩ | ⟨rfl, rfl, rfl, rfl⟩
 all_goals
  go_enter Tryz.func100, Tryz.ntmps100
  go_wp2_with fail
  have HG1 := zA (((zL.nil w).more (.cells #[.int .i64 i, .int .i64 z, .int .i64 s, .slice oa P.length ca, .int .i64 v, .slice od D.length cd, .int .i64 l, .int .i64 u] 58) (by simp)).more (.cells #[.int .i64 i, .int .i64 z, .int .i64 s, .slice oa P.length ca, .int .i64 v, .slice od D.length cd, .int .i64 l, .int .i64 u] 166) (by simp))
  refine (HS.out _).mono ?_
  rintro e w1 ⟨rfl, hb⟩
  have HG1w1 := zA (HG1.out.on hb)
  clear hb HG1
  have lG1_0 := HG1w1.out.lt 0 w.heap.size (by simp) rfl
  obtain ⟨cG1_0_0, cG1_0_1, cG1_0_2, cG1_0_3, cG1_0_4, cG1_0_5, cG1_0_6, cG1_0_7⟩ := HG1w1.out.c8 0 w.heap.size rfl rfl rfl rfl rfl rfl rfl rfl rfl rfl
  have lG1_1 := HG1w1.out.lt 1 (w.heap.size + 1) (by simp) rfl
  obtain ⟨cG1_1_0, cG1_1_1, cG1_1_2, cG1_1_3, cG1_1_4, cG1_1_5, cG1_1_6, cG1_1_7⟩ := HG1w1.out.c8 1 (w.heap.size + 1) rfl rfl rfl rfl rfl rfl rfl rfl rfl rfl
  go_wp2_with fail
 ·go_ret
  exact ⟨rfl, HG1w1.out.2.2⟩
 all_goals
  refine (HA.out _ trivial (HP.out.below HG1w1.out.2.2)).mono ?_
  rintro e w2 ⟨rfl, hb⟩
  have HG1w2 := zA (HG1w1.out.on hb)
  clear lG1_0 cG1_0_0 cG1_0_1 cG1_0_2 cG1_0_3 cG1_0_4 cG1_0_5 cG1_0_6 cG1_0_7 lG1_1 cG1_1_0 cG1_1_1 cG1_1_2 cG1_1_3 cG1_1_4 cG1_1_5 cG1_1_6 cG1_1_7
  clear hb HG1w1
  have lG1_0 := HG1w2.out.lt 0 w.heap.size (by simp) rfl
  obtain ⟨cG1_0_0, cG1_0_1, cG1_0_2, cG1_0_3, cG1_0_4, cG1_0_5, cG1_0_6, cG1_0_7⟩ := HG1w2.out.c8 0 w.heap.size rfl rfl rfl rfl rfl rfl rfl rfl rfl rfl
  have lG1_1 := HG1w2.out.lt 1 (w.heap.size + 1) (by simp) rfl
  obtain ⟨cG1_1_0, cG1_1_1, cG1_1_2, cG1_1_3, cG1_1_4, cG1_1_5, cG1_1_6, cG1_1_7⟩ := HG1w2.out.c8 1 (w.heap.size + 1) rfl rfl rfl rfl rfl rfl rfl rfl rfl rfl
  go_wp2_with fail
 ·go_ret
  exact ⟨rfl, HG1w2.out.2.2⟩
 all_goals
  refine (HC.out _ (HD.out.below HG1w2.out.2.2)).mono ?_
  rintro e w3 ⟨rfl, hb⟩
  have HG1w3 := zA (HG1w2.out.on hb)
  clear lG1_0 cG1_0_0 cG1_0_1 cG1_0_2 cG1_0_3 cG1_0_4 cG1_0_5 cG1_0_6 cG1_0_7 lG1_1 cG1_1_0 cG1_1_1 cG1_1_2 cG1_1_3 cG1_1_4 cG1_1_5 cG1_1_6 cG1_1_7
  clear hb HG1w2
  have lG1_0 := HG1w3.out.lt 0 w.heap.size (by simp) rfl
  obtain ⟨cG1_0_0, cG1_0_1, cG1_0_2, cG1_0_3, cG1_0_4, cG1_0_5, cG1_0_6, cG1_0_7⟩ := HG1w3.out.c8 0 w.heap.size rfl rfl rfl rfl rfl rfl rfl rfl rfl rfl
  have lG1_1 := HG1w3.out.lt 1 (w.heap.size + 1) (by simp) rfl
  obtain ⟨cG1_1_0, cG1_1_1, cG1_1_2, cG1_1_3, cG1_1_4, cG1_1_5, cG1_1_6, cG1_1_7⟩ := HG1w3.out.c8 1 (w.heap.size + 1) rfl rfl rfl rfl rfl rfl rfl rfl rfl rfl
  go_wp2_with fail
 ·go_ret
  exact ⟨rfl, HG1w3.out.2.2⟩
 ·refine (HU.out _).mono ?_
  rintro e w4 ⟨rfl, hb⟩
  have HG1w4 := zA (HG1w3.out.on hb)
  clear lG1_0 cG1_0_0 cG1_0_1 cG1_0_2 cG1_0_3 cG1_0_4 cG1_0_5 cG1_0_6 cG1_0_7 lG1_1 cG1_1_0 cG1_1_1 cG1_1_2 cG1_1_3 cG1_1_4 cG1_1_5 cG1_1_6 cG1_1_7
  clear hb HG1w3
  go_wp2_with fail
  go_ret
  exact ⟨rfl, HG1w4.out.2.2⟩
def unfG (i z s : Int) (P : List TP) (v : Int) (D : List Int) (l u : Int) (x : TK) (m : Int) : Int :=
 if xH i z s P v D l u = 0 then (if jV x = 0 then (if wi m 0 9999 = true then (if earlyG P m = true then 4 else 0) else 3) else jV x) else xH i z s P v D l u
theorem unfG_ways (i z s : Int) (P : List TP) (v : Int) (D : List Int) (l u : Int) (x : TK) (m : Int) : ((xH i z s P v D l u != 0) = true ∧ unfG i z s P v D l u x m = xH i z s P v D l u) ∨ (xH i z s P v D l u = 0 ∧ (jV x != 0) = true ∧ unfG i z s P v D l u x m = jV x) ∨
  (xH i z s P v D l u = 0 ∧ jV x = 0 ∧ wi m 0 9999 = false ∧ unfG i z s P v D l u x m = 3) ∨ (xH i z s P v D l u = 0 ∧ jV x = 0 ∧ wi m 0 9999 = true ∧ earlyG P m = true ∧ unfG i z s P v D l u x m = 4) ∨
  (xH i z s P v D l u = 0 ∧ jV x = 0 ∧ wi m 0 9999 = true ∧ earlyG P m = false ∧ unfG i z s P v D l u x m = 0) := by
 rw [unfG]
 by_cases h1 : xH i z s P v D l u = 0
 ·by_cases h2 : jV x = 0
  ·cases wi m 0 9999 <;> cases earlyG P m <;> simp [h1, h2]
  ·simp [h1, h2]
 ·simp [h1]
theorem jQ {i z s : Int} {P : List TP} {v : Int} {D : List Int} {l u : Int} (h : xH i z s P v D l u = 0) : errS i z s P.length = 0 ∧ qE i z s P = 0 ∧ yZ v D = 0 ∧ errB l u = 0 := by
 rcases chkG_ways i z s P v D l u with ⟨h1, h2⟩ | ⟨h1, h2, h3⟩ | ⟨h1, h2, h3, h4⟩ | ⟨h1, h2, h3, h4⟩
 ·rw [h2] at h; rw [h] at h1; cases h1
 ·rw [h3] at h; rw [h] at h2; cases h2
 ·rw [h4] at h; rw [h] at h3; cases h3
 ·exact ⟨h1, h2, h3, h4.symm.trans h⟩
theorem gateUnfit_any (i z s : Int) (oa : Option Addr) (P : List TP) (ca : Nat) (v : Int) (od : Option Addr) (D : List Int) (cd : Nat) (l u : Int) (ti k f t y r m : Int) (w : World) (hP : zI w oa P) (hD : zH w od D) (hlD : D.length ≤ 9223372036854775807) :
  Calls Tryz.prog 176 #[gtV i z s oa P.length ca v od D.length cd l u, tk ti k f t y r, .int .i64 m] w fun e w' => e = .returned (.int .i64 (unfG i z s P v D l u ⟨ti, k, f, t, y, r⟩ m)) ∧ Below w.heap.size w w' := by
 have HC := zA (fun W (h : zI W oa P) (h' : zH W od D) => gateCheck_any i z s oa P ca v od D cd l u W h h' hlD)
 have HT := zA (fun W => check_any ti k f t y r W)
 have HI := zA (fun W => qS m W)
 have HE := zA (fun W (h0 : xH i z s P v D l u = 0) (h : zI W oa P) => earlyG_any i z s oa P ca v od D.length cd l u m W h (errS_right (jQ h0).1).2.2.2)
 have HP := zA hP
 have HD := zA hD
 have hp := unfG_ways i z s P v D l u ⟨ti, k, f, t, y, r⟩ m
 rw [show jV ⟨ti, k, f, t, y, r⟩ = chk ti k f t y r from rfl] at hp
 generalize unfG i z s P v D l u ⟨ti, k, f, t, y, r⟩ m = E at *
 generalize xH i z s P v D l u = X1 at *
 generalize chk ti k f t y r = X2 at *
 generalize wi m 0 9999 = X3 at *
 generalize earlyG P m = X4 at *
 clear hP hD
 rcases hp with ⟨h1, rfl⟩ | ⟨rfl, h1, rfl⟩ | ⟨rfl, rfl, rfl, rfl⟩ | ⟨rfl, rfl, rfl, rfl, rfl⟩ | ⟨rfl, rfl, rfl, rfl, rfl⟩
 all_goals
  go_enter Tryz.func176, Tryz.ntmps176
  go_wp2_with fail
  have HG1 := zA (((zL.nil w).more (.cells #[.int .i64 i, .int .i64 z, .int .i64 s, .slice oa P.length ca, .int .i64 v, .slice od D.length cd, .int .i64 l, .int .i64 u] 166) (by simp)).more (.cells #[.int .i64 ti, .int .i64 k, .int .i64 f, .int .i64 t, .int .i64 y, .int .i64 r] 34) (by simp))
  refine (HC.out _ (HP.out.below HG1.out.2.2) (HD.out.below HG1.out.2.2)).mono ?_
  rintro e w1 ⟨rfl, hb⟩
  have HG1w1 := zA (HG1.out.on hb)
  clear hb HG1
  have lG1_0 := HG1w1.out.lt 0 w.heap.size (by simp) rfl
  obtain ⟨cG1_0_0, cG1_0_1, cG1_0_2, cG1_0_3, cG1_0_4, cG1_0_5, cG1_0_6, cG1_0_7⟩ := HG1w1.out.c8 0 w.heap.size rfl rfl rfl rfl rfl rfl rfl rfl rfl rfl
  have lG1_1 := HG1w1.out.lt 1 (w.heap.size + 1) (by simp) rfl
  obtain ⟨cG1_1_0, cG1_1_1, cG1_1_2, cG1_1_3, cG1_1_4, cG1_1_5⟩ := HG1w1.out.c6 1 (w.heap.size + 1) rfl rfl rfl rfl rfl rfl rfl rfl
  go_wp2_with fail
 ·go_ret
  exact ⟨rfl, HG1w1.out.2.2⟩
 all_goals
  refine (HT.out _).mono ?_
  rintro e w2 ⟨rfl, hb⟩
  have HG1w2 := zA (HG1w1.out.on hb)
  clear lG1_0 cG1_0_0 cG1_0_1 cG1_0_2 cG1_0_3 cG1_0_4 cG1_0_5 cG1_0_6 cG1_0_7 lG1_1 cG1_1_0 cG1_1_1 cG1_1_2 cG1_1_3 cG1_1_4 cG1_1_5
  clear hb HG1w1
  have lG1_0 := HG1w2.out.lt 0 w.heap.size (by simp) rfl
  obtain ⟨cG1_0_0, cG1_0_1, cG1_0_2, cG1_0_3, cG1_0_4, cG1_0_5, cG1_0_6, cG1_0_7⟩ := HG1w2.out.c8 0 w.heap.size rfl rfl rfl rfl rfl rfl rfl rfl rfl rfl
  have lG1_1 := HG1w2.out.lt 1 (w.heap.size + 1) (by simp) rfl
  obtain ⟨cG1_1_0, cG1_1_1, cG1_1_2, cG1_1_3, cG1_1_4, cG1_1_5⟩ := HG1w2.out.c6 1 (w.heap.size + 1) rfl rfl rfl rfl rfl rfl rfl rfl
  go_wp2_with fail
 ·go_ret
  exact ⟨rfl, HG1w2.out.2.2⟩
 all_goals
  refine (HI.out _).mono ?_
  rintro e w3 ⟨rfl, rfl⟩
  go_wp2_with fail
 ·go_ret
  exact ⟨rfl, HG1w2.out.2.2⟩
 all_goals
  refine (HE.out _ trivial (HP.out.below HG1w2.out.2.2)).mono ?_
  rintro e w4 ⟨rfl, hb⟩
  have HG1w4 := zA (HG1w2.out.on hb)
  clear lG1_0 cG1_0_0 cG1_0_1 cG1_0_2 cG1_0_3 cG1_0_4 cG1_0_5 cG1_0_6 cG1_0_7 lG1_1 cG1_1_0 cG1_1_1 cG1_1_2 cG1_1_3 cG1_1_4 cG1_1_5
  clear hb HG1w2
  go_wp2_with fail
  go_ret
  exact ⟨rfl, HG1w4.out.2.2⟩
def shutG (D : List Int) (u z : Int) (x : TK) (m : Int) : Int := if xQ D x.i = true then 11 else if wi m x.f x.t = false then 8 else if u < m then 8 else if x.z / z % 2 = 0 then 9 else 0
theorem gateShut_any (i z s : Int) (oa : Option Addr) (P : List TP) (ca : Nat) (v : Int) (od : Option Addr) (D : List Int) (cd : Nat) (l u : Int) (ti k f t y r m : Int) (w : World) (hD : zH w od D) (hlD : D.length ≤ 9223372036854775807) (hu : unfD v D ti = 0) (hy : 0 ≤ y) (hy2 : y ≤ 15) (hz : isZ z = true) :
  Calls Tryz.prog 177 #[gtV i z s oa P.length ca v od D.length cd l u, tk ti k f t y r, .int .i64 m] w fun e w' => e = .returned (.int .i64 (shutG D u z ⟨ti, k, f, t, y, r⟩ m)) ∧ Below w.heap.size w w' := by
 have HH := zA (fun W (h : zH W od D) => has_any v ti D od cd W h hlD)
 rw [hu, decide_eq_true rfl, Bool.true_and] at HH
 have hand := and_zone y z hy hy2 hz
 have HD := zA hD
 generalize hE : shutG D u z ⟨ti, k, f, t, y, r⟩ m = E
 have hp : (xQ D ti = true ∧ E = 11) ∨ (xQ D ti = false ∧ wi m f t = false ∧ E = 8) ∨ (xQ D ti = false ∧ wi m f t = true ∧ u < m ∧ E = 8) ∨ (xQ D ti = false ∧ wi m f t = true ∧ ¬ u < m ∧ (bits BinOp.and IntKind.i64 y z == 0) = true ∧ E = 9) ∨ (xQ D ti = false ∧ wi m f t = true ∧ ¬ u < m ∧ (bits BinOp.and IntKind.i64 y z == 0) = false ∧ E = 0) := by
  rw [hand, ← hE, shutG]
  cases xQ D ti <;> cases wi m f t <;> by_cases h : u < m <;> by_cases h' : y / z % 2 = 0 <;> simp [h, h']
 clear hE hand hD hu hy hy2 hz
 generalize xQ D ti = X1 at *
 rcases hp with ⟨rfl, rfl⟩ | ⟨rfl, h2, rfl⟩ | ⟨rfl, h2, h3, rfl⟩ | ⟨rfl, h2, h3, h4, rfl⟩ | ⟨rfl, h2, h3, h4, rfl⟩
 all_goals
  go_enter Tryz.func177, Tryz.ntmps177
  go_wp2_with fail
  have HG1 := zA (((zL.nil w).more (.cells #[.int .i64 i, .int .i64 z, .int .i64 s, .slice oa P.length ca, .int .i64 v, .slice od D.length cd, .int .i64 l, .int .i64 u] 166) (by simp)).more (.cells #[.int .i64 ti, .int .i64 k, .int .i64 f, .int .i64 t, .int .i64 y, .int .i64 r] 34) (by simp))
  refine (HH.out _ (HD.out.below HG1.out.2.2)).mono ?_
  rintro e w1 ⟨rfl, hb⟩
  have HG1w1 := zA (HG1.out.on hb)
  clear hb HG1
  have lG1_0 := HG1w1.out.lt 0 w.heap.size (by simp) rfl
  obtain ⟨cG1_0_0, cG1_0_1, cG1_0_2, cG1_0_3, cG1_0_4, cG1_0_5, cG1_0_6, cG1_0_7⟩ := HG1w1.out.c8 0 w.heap.size rfl rfl rfl rfl rfl rfl rfl rfl rfl rfl
  have lG1_1 := HG1w1.out.lt 1 (w.heap.size + 1) (by simp) rfl
  obtain ⟨cG1_1_0, cG1_1_1, cG1_1_2, cG1_1_3, cG1_1_4, cG1_1_5⟩ := HG1w1.out.c6 1 (w.heap.size + 1) rfl rfl rfl rfl rfl rfl rfl rfl
  go_wp2_with (go_at_call 70; refine (yD _ _ _ _).mono ?_; rintro e w' ⟨rfl, rfl⟩)
  go_ret
  exact ⟨rfl, HG1w1.out.2.2⟩
def hasA (P : List TP) (id : Int) : Bool := P.any fun x => x.a == id
theorem spent1_any (a g s m z id : Int) (B : Nat) (w : World) (hc : w.cell? ⟨B, 0, none⟩ = some (.int .i64 id)) :
  Calls Tryz.prog 196 #[tp a g s m z, .pointer (some ⟨B, 0, none⟩)] w fun e w' => e = .returned (.bool (a == id)) ∧ Below w.heap.size w w' := by
 have hlt : B < w.heap.size := World.block_lt_of_cell? w ⟨B, 0, none⟩ hc
 go_enter Tryz.func196, Tryz.ntmps196
 go_wp2_with fail
 go_ret
 exact ⟨rfl, (Below.refl _ _).alloc (Nat.le_refl _) _⟩
theorem indexS_any (id : Int) (B : Nat) (o : Option Addr) (cap : Nat) (L : List TP) (w : World) (hL : zI w o L) (hlen : L.length ≤ 9223372036854775807) (hc : w.cell? ⟨B, 0, none⟩ = some (.int .i64 id)) :
  Calls Tryz.prog 165 #[.slice o L.length cap, .func (.func 196) #[] #[.pointer (some ⟨B, 0, none⟩)]] w fun e w' =>
   (∃ n : Int, e = .returned (.int .i64 n) ∧ decide (0 ≤ n) = hasA L id) ∧ Below w.heap.size w w' := by
 have HL := zA hL
 have HC := zA hc
 clear hL hc
 go_enter Tryz.func165, Tryz.ntmps165
 go_wp2_with fail
 go_loopw [8] (fun j wr => ∃ (q : Nat), q ≤ L.length ∧ j = .int .i64 q ∧ Hid (hasA (L.take q) id = false) ∧ Below w.heap.size w wr) (fun j _ => L.length - (intOf j).toNat)
 case atStart => exact ⟨0, Nat.zero_le _, rfl, by show _ = _; simp [hasA], Below.refl _ _⟩
 case round =>
  obtain ⟨q, hq, rfl, hF, hbr⟩ := hrel
  by_cases hgo : q < L.length
  ·obtain ⟨x, hp⟩ : ∃ x, L[q]? = some x := ⟨L[q], by simp [hgo]⟩
   have HS : Hid (hasA (L.take (q + 1)) id = (x.a == id)) := by
    show _ = _
    have h0 := hF.out
    unfold hasA at h0 ⊢
    rw [List.take_add_one, hp, Option.toList_some, List.any_append, h0]
    simp
   obtain ⟨A, rfl, c0, c1, c2, c3, c4⟩ := (HL.out.below hbr) q x hp
   have HP := zA hp
   clear hp
   go_wp2_with fail
   refine (spent1_any _ _ _ _ _ id B _ (by rw [hbr.cell (World.block_lt_of_cell? w _ HC.out)]; exact HC.out)).mono ?_
   rintro e w3 ⟨rfl, hb3⟩
   have hbr3 := hbr.trans (hb3.mono hbr.size)
   clear hbr hb3
   cases hx : (x.a == id)
   ·rw [hx] at HS
    clear hx
    go_wp2_with fail
    exact ⟨⟨q + 1, by omega, by simp, HS, hbr3⟩, by simp [intOf]; omega⟩
   ·have HX := zA hx
    clear hx
    go_wp2_with fail
    go_ret
    refine ⟨⟨q, rfl, ?_⟩, hbr3⟩
    have hp := HP.out
    have : hasA L id = true := by
     unfold hasA
     rw [List.any_eq_true]
     exact ⟨x, List.mem_of_getElem? hp, HX.out⟩
    simp [this]
  ·go_wp2_with fail
   go_ret
   refine ⟨⟨-1, rfl, ?_⟩, hbr⟩
   have h1 := hF.out
   rw [List.take_of_length_le (by omega)] at h1
   simp [h1]
theorem containsS_any (id : Int) (B : Nat) (o : Option Addr) (cap : Nat) (L : List TP) (w : World) (hL : zI w o L) (hlen : L.length ≤ 9223372036854775807) (hc : w.cell? ⟨B, 0, none⟩ = some (.int .i64 id)) :
  Calls Tryz.prog 132 #[.slice o L.length cap, .func (.func 196) #[] #[.pointer (some ⟨B, 0, none⟩)]] w fun e w' =>
   e = .returned (.bool (hasA L id)) ∧ Below w.heap.size w w' := by
 have HI := zA (indexS_any id B o cap L w hL hlen hc)
 clear hL hc
 go_enter Tryz.func132, Tryz.ntmps132
 go_wp2_with fail
 refine HI.out.mono ?_
 rintro e w' ⟨⟨n, rfl, hn⟩, hb⟩
 have HN := zA hn
 clear hn
 go_wp2_with fail
 go_ret
 exact ⟨by rw [← HN.out]; rfl, hb⟩
def spentG (P : List TP) (l : Int) (x : TK) : Bool := (l == 0) || ((x.k != 2) && hasA P x.i)
theorem gateSpent_any (i z s : Int) (oa : Option Addr) (P : List TP) (ca : Nat) (v : Int) (od : Option Addr) (D : List Int) (cd : Nat) (l u : Int) (ti k f t y r : Int) (w : World) (hP : zI w oa P) (hlP : P.length ≤ 9223372036854775807) :
  Calls Tryz.prog 178 #[gtV i z s oa P.length ca v od D.length cd l u, tk ti k f t y r] w fun e w' => e = .returned (.bool (spentG P l ⟨ti, k, f, t, y, r⟩)) ∧ Below w.heap.size w w' := by
 have HC := zA (fun W B (h : zI W oa P) (h' : W.cell? ⟨B, 0, none⟩ = some (.int .i64 ti)) => containsS_any ti B oa ca P W h hlP h')
 have HP := zA hP
 clear hP
 unfold spentG
 have hp : (l == 0) = true ∨ ((l == 0) = false ∧ (k != 2) = false) ∨ ((l == 0) = false ∧ (k != 2) = true) := by cases (l == 0) <;> cases (k != 2) <;> simp
 simp only []
 generalize hasA P ti = X at *
 rcases hp with h1 | ⟨h1, h2⟩ | ⟨h1, h2⟩
 ·go_enter Tryz.func178, Tryz.ntmps178
  go_wp2_with fail
  have HG1 := zA (((zL.nil w).more (.cells #[.int .i64 i, .int .i64 z, .int .i64 s, .slice oa P.length ca, .int .i64 v, .slice od D.length cd, .int .i64 l, .int .i64 u] 166) (by simp)).more (.cells #[.int .i64 ti, .int .i64 k, .int .i64 f, .int .i64 t, .int .i64 y, .int .i64 r] 34) (by simp))
  go_ret
  exact ⟨by simp [*], HG1.out.2.2⟩
 ·go_enter Tryz.func178, Tryz.ntmps178
  go_wp2_with fail
  have HG1 := zA (((zL.nil w).more (.cells #[.int .i64 i, .int .i64 z, .int .i64 s, .slice oa P.length ca, .int .i64 v, .slice od D.length cd, .int .i64 l, .int .i64 u] 166) (by simp)).more (.cells #[.int .i64 ti, .int .i64 k, .int .i64 f, .int .i64 t, .int .i64 y, .int .i64 r] 34) (by simp))
  go_ret
  exact ⟨by simp [*], HG1.out.2.2⟩
 ·go_enter Tryz.func178, Tryz.ntmps178
  go_wp2_with fail
  have HG1 := zA (((zL.nil w).more (.cells #[.int .i64 i, .int .i64 z, .int .i64 s, .slice oa P.length ca, .int .i64 v, .slice od D.length cd, .int .i64 l, .int .i64 u] 166) (by simp)).more (.cells #[.int .i64 ti, .int .i64 k, .int .i64 f, .int .i64 t, .int .i64 y, .int .i64 r] 34) (by simp))
  refine (HC.out _ _ (HP.out.below HG1.out.2.2) (HG1.out.cell 1 0 _ _ _ _ rfl rfl rfl)).mono ?_
  rintro e w1 ⟨rfl, hb⟩
  have HG1w1 := zA (HG1.out.on hb)
  clear hb HG1
  have lG1_0 := HG1w1.out.lt 0 w.heap.size (by simp) rfl
  obtain ⟨cG1_0_0, cG1_0_1, cG1_0_2, cG1_0_3, cG1_0_4, cG1_0_5, cG1_0_6, cG1_0_7⟩ := HG1w1.out.c8 0 w.heap.size rfl rfl rfl rfl rfl rfl rfl rfl rfl rfl
  have lG1_1 := HG1w1.out.lt 1 (w.heap.size + 1) (by simp) rfl
  obtain ⟨cG1_1_0, cG1_1_1, cG1_1_2, cG1_1_3, cG1_1_4, cG1_1_5⟩ := HG1w1.out.c6 1 (w.heap.size + 1) rfl rfl rfl rfl rfl rfl rfl rfl
  go_wp2_with fail
  go_ret
  exact ⟨by simp [*], HG1w1.out.2.2⟩
theorem gateNext_any (i z s : Int) (oa : Option Addr) (P : List TP) (ca : Nat) (v : Int) (od : Option Addr) (D : List Int) (cd : Nat) (l u : Int) (ti k f t y r m : Int) (w : World) (hs : 0 ≤ s) (hs2 : s ≤ 99) :
  Calls Tryz.prog 180 #[gtV i z s oa P.length ca v od D.length cd l u, tk ti k f t y r, .int .i64 m] w fun e w' => e = .returned (tp ti i (s + 1) m z) ∧ Below w.heap.size w w' := by
 have hwr : IntKind.i64.wrap (s + 1) = s + 1 := by rw [IntKind.wrap_i64]; omega
 go_enter Tryz.func180, Tryz.ntmps180
 go_wp2_with fail
 refine bodyPost_ret (v := tp ti i (s + 1) m z) (by simp [results, Tryz.results180, go_sem]) rfl ⟨rfl, ?_⟩
 exact (((Below.refl _ _).alloc (Nat.le_refl _) _).alloc (by simp) _).alloc (by simp; omega) _
end
end Go.Proofs.YtgidebfgcbkkkaaGreat
