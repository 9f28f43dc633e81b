/-
  Texts joined: V1, V2, V3, V4, V5, H4, V6, V11, Z1, Z2, Z3, L4, L5, L6, L7, L8, S1, H2, P5.
-/
import Derived.Deep.CutRange
import Derived.Deep.CutBlock
import Derived.Maps.AppendAt
import Derived.Laws.OwnMore
import Derived.Laws.AppendOwnNone
import Derived.WalkKit
import Derived.Lib.QuietBelow
import Derived.BigQuiet
import Derived.OrdersHeld
import Derived.Great.Frames
import Derived.Test.YtgidebfgcbkkkaaGreatPk1
set_option maxHeartbeats 12800000
set_option maxRecDepth 100000
namespace Go.Proofs.YtgidebfgcbkkkaaGreat
section
open Go.ChangeShapes Go.WideShapes Go.ChangeAt Go.RowKit Go.Deep
structure VW where
 e : Int
 l : Int
 u : Bool
abbrev vwV (e l : Int) (u : Bool) : Value := .agg #[.int .i64 e, .int .i64 l, .bool u]
structure Vw3 (w : World) (b : Addr) (p : VW) : Prop where
 c0 : w.cell? b = some (.int .i64 p.e)
 c1 : w.cell? ⟨b.block, b.off + 1, none⟩ = some (.int .i64 p.l)
 c2 : w.cell? ⟨b.block, b.off + 2, none⟩ = some (.bool p.u)
theorem Vw3.lt {w : World} {b : Addr} {p : VW} (h : Vw3 w b p) : b.block < w.heap.size := World.block_lt_of_cell? w b h.c0
theorem Vw3.below {B : Nat} {w w' : World} {b : Addr} {p : VW} (h : Vw3 w b p) (hb : Below B w w') (hlt : b.block < B) : Vw3 w' b p :=
 ⟨by rw [hb.cell hlt]; exact h.c0, by rw [hb.cell (p := ⟨b.block, b.off + 1, none⟩) hlt]; exact h.c1, by rw [hb.cell (p := ⟨b.block, b.off + 2, none⟩) hlt]; exact h.c2⟩
def zZ (w : World) (o : Option Addr) (L : List VW) : Prop := ∀ i p, L[i]? = some p → ∃ b, o = some b ∧ Vw3 w (b.add (i * 3)) p
theorem zZ.below {w w' : World} {o : Option Addr} {L : List VW} (h : zZ w o L) (hb : Below w.heap.size w w') : zZ w' o L :=
 fun i p hi => have ⟨b, e, h5⟩ := h i p hi; ⟨b, e, h5.below hb h5.lt⟩
theorem infoVw : (Tryz.prog.info? 107).map (fun i => (i.zero, i.size, i.bytes)) = some (some (.agg #[.int .i64 0, .int .i64 0, .bool false]), 3, 24) := by kernel_rfl
def yX (L : List VW) : List Value := L.flatMap fun p => [.int .i64 p.e, .int .i64 p.l, .bool p.u]
theorem cellsW_len (L : List VW) : (yX L).length = L.length * 3 := by
 induction L with
 | nil => rfl
 | cons p L ih =>
  rw [yX, List.flatMap_cons, List.length_append, List.length_cons, ← yX, ih]
  simp; omega
theorem cellsW_app (L M : List VW) : yX (L ++ M) = yX L ++ yX M := by simp [yX]
theorem jP (L : List VW) (i : Nat) (p : VW) (h : L[i]? = some p) (j : Nat) (hj : j < 3) : (yX L)[i * 3 + j]? = [Value.int .i64 p.e, .int .i64 p.l, .bool p.u][j]? := by
 induction L generalizing i with
 | nil => simp at h
 | cons q L ih =>
  rw [yX, List.flatMap_cons, ← yX]
  match i, h with
  | 0, h =>
   simp at h
   subst h
   rw [List.getElem?_append_left (by simp; omega)]
   simp
  | i + 1, h =>
   rw [List.getElem?_append_right (by simp; omega)]
   simp only [List.length_cons, List.length_nil]
   rw [show (i + 1) * 3 + j - (0 + 1 + 1 + 1) = i * 3 + j by omega]
   exact ih i (by simpa using h)
theorem oneW (L : List VW) : ∀ u ∈ yX L, u.oneCell' = true := by
 intro u hu
 simp only [yX, List.mem_flatMap, List.mem_cons, List.not_mem_nil, or_false] at hu
 obtain ⟨p, -, h⟩ := hu
 rcases h with rfl | rfl | rfl <;> rfl
theorem vws_cells {w : World} {A : Addr} {L : List VW} (h : zZ w (some A) L) : ∀ j u, (yX L)[j]? = some u → w.cell? (A.add j) = some u := by
 intro j u hu
 have hlt := (List.getElem?_eq_some_iff.1 hu).1
 rw [cellsW_len] at hlt
 obtain ⟨p, hp⟩ : ∃ p, L[j / 3]? = some p := ⟨L[j / 3]'(by omega), by simp⟩
 obtain ⟨b, hb, c0, c1, c2⟩ := h _ p hp
 cases hb
 have hj : j = j / 3 * 3 + j % 3 := by omega
 have hr : j % 3 < 3 := by omega
 have e := jP L _ p hp (j % 3) hr
 rw [← hj, hu] at e
 generalize j / 3 = q at *
 generalize j % 3 = r at *
 subst hj
 match r, hr, e with
 | 0, _, e => simp at e; subst e; exact c0
 | 1, _, e => simp at e; subst e; rw [← xB _ _ _ (by decide)]; exact c1
 | 2, _, e => simp at e; subst e; rw [← xB _ _ _ (by decide)]; exact c2
def qK (w : World) (v : Value) (L : List VW) : Prop := ∃ o cap, v = .slice o L.length cap ∧ zZ w o L ∧ L.length ≤ cap ∧ (o = none → cap = 0)
theorem qK.below {w w' : World} {v : Value} {L : List VW} (h : qK w v L) (hb : Below w.heap.size w w') : qK w' v L := have ⟨o, c, e, h1, h2⟩ := h; ⟨o, c, e, h1.below hb, h2⟩
theorem vwsV_own {w : World} {base n : Nat} {v : Value} {L : List VW} (h : w.ownsRow base 107 3 v n (yX L)) : qK w v L := by
 have hn : n = L.length := by have := h.1; rw [cellsW_len] at this; omega
 subst hn
 have hc := fun g => h.cells (g := g)
 rcases h.2 with ⟨rfl, h0⟩ | ⟨g, cap, cur, rfl, -, -, hcap, -⟩
 ·have : L = [] := List.eq_nil_of_length_eq_zero h0
  subst this
  exact ⟨none, 0, rfl, fun i p hi => by simp at hi, by simp, fun _ => rfl⟩
 ·refine ⟨_, cap, rfl, fun i p hi => ⟨_, rfl, ?_⟩, hcap, fun h => by cases h⟩
  have e := fun j hj => jP L i p hi j hj
  have c := fun j u hu => hc g rfl (i * 3 + j) u hu
  refine ⟨?_, ?_, ?_⟩
  ·have := c 0 _ (e 0 (by omega))
   simpa using this
  ·rw [xB _ _ _ (by decide)]; exact c 1 _ (e 1 (by omega))
  ·rw [xB _ _ _ (by decide)]; exact c 2 _ (e 2 (by omega))
section
variable {H : Type} {enc : TypeId × Value → H}
end
theorem cloneW_any (L : List VW) (o : Option Addr) (cap : Nat) (w : World) (hL : zZ w o L) (hlen : L.length ≤ 60) :
  Calls Tryz.prog 66 #[.slice o L.length cap] w fun e w' => (∃ v, e = .returned v ∧ qK w' v L ∧ zK w.heap.size v) ∧ Below w.heap.size w w' := by
 obtain ⟨i0, hi, hz0, hz1, hz2⟩ := info_parts infoVw
 have q : ∀ (w : World) (a : Option Addr) (n c n' c' : Nat), (binOp .eql 30 (.slice a n c) (.slice none n' c')).run Tryz.prog w = .ok (.bool a.isNone) w := fun w a n c n' c' => Lib.run_eql_slice_nil w _ _ a n c n' c' Tryz.underlying30
 cases o with
 | none =>
  have hL0 : L = [] := by
   cases L with
   | nil => rfl
   | cons x L => obtain ⟨b, hb, -⟩ := hL 0 x rfl; cases hb
  subst hL0
  go_enter Tryz.func66, Tryz.ntmps66
  go_wp2
  go_ret
  exact ⟨⟨_, rfl, ⟨none, 0, rfl, fun i p hi => by simp at hi, by simp, fun _ => rfl⟩, fun k hk => by simp [Value.ownBlock] at hk⟩, Below.refl _ _⟩
 | some A =>
  have HN := zA (vws_cells (hL.below ((Below.refl w.heap.size w).alloc (Nat.le_refl _) (.cells #[] 107))))
  have HO := zA (World.ownsRow_made (base := w.heap.size) (e := 107) (size := 3) w #[] 0 (Nat.le_refl _) (by decide) rfl)
  clear hL
  go_enter Tryz.func66, Tryz.ntmps66
  go_wp2_with (at_builtin; refine wpList_append_own _ rfl _ _ 30 rfl w.heap.size 107 i0 _ 3 24 Tryz.underlying30 hi hz0 hz1 hz2 rfl (by decide) _ 0 _ rfl HO.out A L.length cap (yX L) rfl (cellsW_len L) HN.out (oneW L) (by unfold maxLen; omega) (by omega) (by simp) ?_; intro v1 w1 hown1 hgrow1 _)
  go_ret
  exact ⟨⟨_, rfl, vwsV_own hown1, fun k hk => (hown1.lt k hk).1⟩, ((Below.refl w.heap.size w).alloc (Nat.le_refl _) _).grown hgrow1 (by simp) (fun k hk => (HO.out.lt k hk).1)⟩
end
section
open Go.RowKit
def jZ (p : VW) : Int := if (wi p.e 0 99 && wi p.l 0 1) = false then 3 else if p.e = 0 ∧ p.l ≠ 0 then 4 else 0
def twoW (v w : VW) : Bool := v.e == w.e && v.l != w.l
def splW (L : List VW) : Bool := L.any fun v => L.any fun w => twoW v w
def yL (L : List VW) : Int := if L.length = 3 then (if zG (L.map jZ) = 0 then (if splW L = true then 4 else 0) else zG (L.map jZ)) else 1
def xG : List VW → VW
 | [] => ⟨0, 0, false⟩
 | x :: r => r.foldl (fun m y => if m.e < y.e then y else m) x
def jS (g : VW → Bool) (L : List VW) : Bool := decide (3 < 2 * (L.countP g : Int))
def upG (v : VW) : Bool := v.u
def upAt (L : List VW) (i : Int) : Bool := ((L[i.toNat]?).map VW.u).getD false
def lastG (p : VW) : VW → Bool := fun v => v.u && v.e == p.e
def leadsW (L : List VW) : Bool := (xG L).e != 0 && upAt L (xG L).l && jS (lastG (xG L)) L
def winsW (L : List VW) (who : Int) : Bool := upAt L who && jS upG L
def qO (L : List VW) (who n : Int) : Int := if yL L = 0 then (if wi who 0 n = true then 0 else 3) else yL L
def winE (L : List VW) (who : Int) : Int := if qO L who 1 = 0 then (if winsW L who = true ∧ (xG L).e = 99 then 2 else 0) else qO L who 1
def yW (L : List VW) (e who : Int) : List VW := L.map fun v => if v.u = true then ⟨e, who, true⟩ else v
def winB (L : List VW) (who : Int) : Bool := decide (winE L who = 0) && winsW L who
def winL (L : List VW) (who : Int) : List VW := if winsW L who = true then yW L ((xG L).e + 1) who else L
def setL (L : List VW) (who : Int) (up : Bool) : List VW := L.modify who.toNat fun v => ⟨v.e, v.l, up⟩
theorem chkW_zero {p : VW} : jZ p = 0 ↔ (0 ≤ p.e ∧ p.e ≤ 99 ∧ (p.l = 0 ∨ p.l = 1) ∧ (p.e = 0 → p.l = 0)) := by
 rw [jZ]
 simp only [wi, Bool.and_eq_false_iff, decide_eq_false_iff_not]
 split
 ·simp; omega
 ·split
  ·simp; omega
  ·simp; omega
theorem chkVs_three {L : List VW} (h : yL L ≠ 1) : ∃ a b c, L = [a, b, c] := by
 rw [yL] at h
 split at h
 ·rename_i hl
  match L, hl with
  | [a, b, c], _ => exact ⟨a, b, c, rfl⟩
 ·exact absurd rfl h
theorem chkVs_right {L : List VW} (h : yL L = 0) : ∃ a b c, L = [a, b, c] ∧ jZ a = 0 ∧ jZ b = 0 ∧ jZ c = 0 ∧ splW L = false := by
 obtain ⟨a, b, c, rfl⟩ := chkVs_three (L := L) (by omega)
 refine ⟨a, b, c, rfl, ?_⟩
 rw [yL] at h
 simp only [List.length_cons, List.length_nil, List.map_cons, List.map_nil, zG] at h
 by_cases ha : jZ a = 0
 ·by_cases hb : jZ b = 0
  ·by_cases hc : jZ c = 0
   ·simp [ha, hb, hc] at h
    exact ⟨ha, hb, hc, h⟩
   ·simp [ha, hb, hc] at h
  ·simp [ha, hb] at h
 ·simp [ha] at h
theorem chkVs_of {a b c : VW} (ha : jZ a = 0) (hb : jZ b = 0) (hc : jZ c = 0) (hs : splW [a, b, c] = false) : yL [a, b, c] = 0 := by
 rw [yL]
 simp [zG, ha, hb, hc, hs]
theorem splW_three {a b c : VW} : splW [a, b, c] = false ↔ ((a.e = b.e → a.l = b.l) ∧ (a.e = c.e → a.l = c.l) ∧ (b.e = c.e → b.l = c.l)) := by
 simp only [splW, twoW, List.any_cons, List.any_nil, Bool.or_false, Bool.or_eq_false_iff, Bool.and_eq_false_iff, beq_eq_false_iff_ne, bne_eq_false_iff_eq]
 constructor
 ·rintro ⟨⟨-, h1, h2⟩, ⟨-, -, h3⟩, -⟩
  exact ⟨fun h => by rcases h1 with h1 | h1 <;> simp_all, fun h => by rcases h2 with h2 | h2 <;> simp_all, fun h => by rcases h3 with h3 | h3 <;> simp_all⟩
 ·rintro ⟨h1, h2, h3⟩
  refine ⟨⟨Or.inr trivial, ?_, ?_⟩, ⟨?_, Or.inr trivial, ?_⟩, ?_, ?_, Or.inr trivial⟩
  ·by_cases h : a.e = b.e <;> simp_all
  ·by_cases h : a.e = c.e <;> simp_all
  ·by_cases h : a.e = b.e
   ·right; simp_all
   ·left; omega
  ·by_cases h : b.e = c.e <;> simp_all
  ·by_cases h : a.e = c.e
   ·right; simp_all
   ·left; omega
  ·by_cases h : b.e = c.e
   ·right; simp_all
   ·left; omega
theorem chkW_ways (p : VW) : (wi p.e 0 99 = false ∧ jZ p = 3) ∨ (wi p.e 0 99 = true ∧ wi p.l 0 1 = false ∧ jZ p = 3) ∨ (wi p.e 0 99 = true ∧ wi p.l 0 1 = true ∧ (p.e == 0) = true ∧ (p.l != 0) = true ∧ jZ p = 4) ∨
  (wi p.e 0 99 = true ∧ wi p.l 0 1 = true ∧ (p.e == 0) = true ∧ (p.l != 0) = false ∧ jZ p = 0) ∨ (wi p.e 0 99 = true ∧ wi p.l 0 1 = true ∧ (p.e == 0) = false ∧ jZ p = 0) := by
 rw [jZ]
 cases wi p.e 0 99 <;> cases wi p.l 0 1 <;> by_cases h1 : p.e = 0 <;> by_cases h2 : p.l = 0 <;> simp [h1, h2]
theorem checkView_any (e l : Int) (u : Bool) (w : World) :
  Calls Tryz.prog 102 #[vwV e l u] w fun x w' => x = .returned (.int .i64 (jZ ⟨e, l, u⟩)) ∧ Below w.heap.size w w' := by
 rcases chkW_ways ⟨e, l, u⟩ with ⟨h1, h4⟩ | ⟨h1, h2, h4⟩ | ⟨h1, h2, h3, h5, h4⟩ | ⟨h1, h2, h3, h5, h4⟩ | ⟨h1, h2, h3, h4⟩
 all_goals
  rw [h4]
  clear h4
  simp only [] at *
  go_enter Tryz.func102, Tryz.ntmps102
  go_wp2_with (go_at_call 70; refine (yD _ _ _ _).mono ?_; rintro e w' ⟨rfl, rfl⟩)
  go_ret
  exact ⟨rfl, (Below.refl _ _).alloc (Nat.le_refl _) _⟩
theorem split11_any (v : VW) (B : Nat) (e l : Int) (u : Bool) (w : World) (hc0 : w.cell? ⟨B, 0, none⟩ = some (.int .i64 v.e)) (hc1 : w.cell? ⟨B, 1, none⟩ = some (.int .i64 v.l)) :
  Calls Tryz.prog 137 #[vwV e l u, .pointer (some ⟨B, 0, none⟩)] w fun x w' => x = .returned (.bool (twoW v ⟨e, l, u⟩)) ∧ Below w.heap.size w w' := by
 have hlt := World.block_lt_of_cell? w ⟨B, 0, none⟩ hc0
 obtain ⟨ve, vl, vu⟩ := v
 simp only [twoW]
 simp only [] at hc0 hc1
 cases h : (ve == e)
 all_goals
  go_enter Tryz.func137, Tryz.ntmps137
  go_wp2_with fail
  go_ret
  exact ⟨by simp, (Below.refl _ _).alloc (Nat.le_refl _) _⟩
theorem indexSI_any (v : VW) (B : Nat) (o : Option Addr) (cap : Nat) (L : List VW) (w : World) (hL : zZ w o L) (hlen : L.length ≤ 9223372036854775807) (hc0 : w.cell? ⟨B, 0, none⟩ = some (.int .i64 v.e)) (hc1 : w.cell? ⟨B, 1, none⟩ = some (.int .i64 v.l)) :
  Calls Tryz.prog 166 #[.slice o L.length cap, .func (.func 137) #[] #[.pointer (some ⟨B, 0, none⟩)]] w fun e w' =>
   (∃ n : Int, e = .returned (.int .i64 n) ∧ decide (0 ≤ n) = L.any (twoW v)) ∧ Below w.heap.size w w' := by
 have HL := zA hL
 have HI := zA (fun (p : VW) (W : World) => fun (hb : Below w.heap.size w W) (h : w.cell? ⟨B, 0, none⟩ = some (.int .i64 v.e) ∧ w.cell? ⟨B, 1, none⟩ = some (.int .i64 v.l)) => split11_any v B p.e p.l p.u W (by rw [hb.cell (p := ⟨B, 0, none⟩) (World.block_lt_of_cell? w ⟨B, 0, none⟩ h.1)]; exact h.1) (by rw [hb.cell (p := ⟨B, 1, none⟩) (World.block_lt_of_cell? w ⟨B, 0, none⟩ h.1)]; exact h.2))
 clear hL
 have HB0 := zA (⟨hc0, hc1⟩ : (w.cell? ⟨B, 0, none⟩ = some (.int .i64 v.e)) ∧ (w.cell? ⟨B, 1, none⟩ = some (.int .i64 v.l)))
 clear hc0 hc1
 generalize hg : (twoW v) = g at *
 clear hg
 go_enter Tryz.func166, Tryz.ntmps166
 go_wp2_with fail
 go_loopw [8] (fun j wr => ∃ (q : Nat), q ≤ L.length ∧ j = .int .i64 q ∧ Hid ((L.take q).any g = false) ∧ Below w.heap.size w wr) (fun j _ => L.length - (intOf j).toNat)
 case atStart => exact ⟨0, Nat.zero_le _, rfl, by show _ = _; simp, Below.refl _ _⟩
 case round =>
  obtain ⟨q, hq, rfl, hF, hbr⟩ := hrel
  by_cases hgo : q < L.length
  ·obtain ⟨p, hp⟩ : ∃ p, L[q]? = some p := ⟨L[q], by simp [hgo]⟩
   have HS : Hid ((L.take (q + 1)).any g = g p) := by
    show _ = _
    rw [List.take_add_one, hp, Option.toList_some, List.any_append, hF.out]
    simp
   obtain ⟨A, rfl, c0, c1, c2⟩ := (HL.out.below hbr) q p hp
   have HP := zA hp
   have HC := zA (HI.out p wr hbr HB0.out)
   clear hp
   go_wp2_with fail
   refine HC.out.mono ?_
   rintro e w3 ⟨rfl, hb3⟩
   have hbr3 := hbr.trans (hb3.mono hbr.size)
   clear hbr hb3 HC
   cases hx : g p
   ·rw [hx] at HS
    go_wp2_with fail
    exact ⟨⟨q + 1, by omega, by simp, HS, hbr3⟩, by simp [intOf]; omega⟩
   ·go_wp2_with fail
    go_ret
    refine ⟨⟨q, rfl, ?_⟩, hbr3⟩
    have hp := HP.out
    have : L.any g = true := by
     rw [List.any_eq_true]
     exact ⟨p, List.mem_of_getElem? hp, hx⟩
    simp [this]
  ·go_wp2_with fail
   go_ret
   refine ⟨⟨-1, rfl, ?_⟩, hbr⟩
   have h1 := hF.out
   rw [List.take_of_length_le (by omega)] at h1
   simp [h1]
theorem containsSI_any (v : VW) (B : Nat) (o : Option Addr) (cap : Nat) (L : List VW) (w : World) (hL : zZ w o L) (hlen : L.length ≤ 9223372036854775807) (hc0 : w.cell? ⟨B, 0, none⟩ = some (.int .i64 v.e)) (hc1 : w.cell? ⟨B, 1, none⟩ = some (.int .i64 v.l)) :
  Calls Tryz.prog 135 #[.slice o L.length cap, .func (.func 137) #[] #[.pointer (some ⟨B, 0, none⟩)]] w fun e w' =>
   e = .returned (.bool (L.any (twoW v))) ∧ Below w.heap.size w w' := by
 have HI := zA (indexSI_any v B o cap L w hL hlen hc0 hc1)
 clear hL hc0 hc1
 generalize (twoW v) = g at *
 go_enter Tryz.func135, Tryz.ntmps135
 go_wp2_with fail
 refine HI.out.mono ?_
 rintro e w' ⟨⟨n, rfl, hn⟩, hb⟩
 have HN := zA hn
 clear hn
 go_wp2_with fail
 go_ret
 exact ⟨by rw [← HN.out]; rfl, hb⟩
def anyW (M : List VW) (v : VW) : Bool := M.any (twoW v)
theorem split1_any (B : Nat) (o : Option Addr) (cap : Nat) (L : List VW) (e l : Int) (u : Bool) (w : World) (hL : zZ w o L) (hlen : L.length ≤ 9223372036854775807) (hc : w.cell? ⟨B, 0, none⟩ = some (.slice o L.length cap)) :
  Calls Tryz.prog 136 #[vwV e l u, .pointer (some ⟨B, 0, none⟩)] w fun x w' => x = .returned (.bool (anyW L ⟨e, l, u⟩)) ∧ Below w.heap.size w w' := by
 have hlt := World.block_lt_of_cell? w ⟨B, 0, none⟩ hc
 have HB := zA ((zL.nil w).more (.cells #[.int .i64 e, .int .i64 l, .bool u] 107) (by simp))
 have HC := zA (containsSI_any ⟨e, l, u⟩ w.heap.size o cap L _ (hL.below HB.out.2.2) hlen (HB.out.cell 0 0 _ _ _ _ rfl rfl rfl) (HB.out.cell 0 1 _ _ _ _ rfl rfl rfl))
 clear hL
 go_enter Tryz.func136, Tryz.ntmps136
 go_wp2_with fail
 refine HC.out.mono ?_
 rintro e w1 ⟨rfl, hb⟩
 have HB1 := zA (HB.out.on hb)
 clear hb HB
 go_wp2_with fail
 go_ret
 exact ⟨rfl, HB1.out.2.2⟩
theorem indexSO_any (B : Nat) (o1 : Option Addr) (cap1 : Nat) (M : List VW) (o : Option Addr) (cap : Nat) (L : List VW) (w : World) (hL : zZ w o L) (hlen : L.length ≤ 9223372036854775807) (hM : zZ w o1 M) (hlM : M.length ≤ 9223372036854775807) (hc : w.cell? ⟨B, 0, none⟩ = some (.slice o1 M.length cap1)) :
  Calls Tryz.prog 166 #[.slice o L.length cap, .func (.func 136) #[] #[.pointer (some ⟨B, 0, none⟩)]] w fun e w' =>
   (∃ n : Int, e = .returned (.int .i64 n) ∧ decide (0 ≤ n) = L.any (anyW M)) ∧ Below w.heap.size w w' := by
 have HL := zA hL
 have HI := zA (fun (p : VW) (W : World) => fun (hb : Below w.heap.size w W) (h : zZ w o1 M ∧ M.length ≤ 9223372036854775807 ∧ w.cell? ⟨B, 0, none⟩ = some (.slice o1 M.length cap1)) => split1_any B o1 cap1 M p.e p.l p.u W (h.1.below hb) h.2.1 (by rw [hb.cell (p := ⟨B, 0, none⟩) (World.block_lt_of_cell? w ⟨B, 0, none⟩ h.2.2)]; exact h.2.2))
 clear hL
 have HB0 := zA (⟨hM, hlM, hc⟩ : (zZ w o1 M) ∧ (M.length ≤ 9223372036854775807) ∧ (w.cell? ⟨B, 0, none⟩ = some (.slice o1 M.length cap1)))
 clear hM hlM hc
 generalize hg : (anyW M) = g at *
 clear hg
 go_enter Tryz.func166, Tryz.ntmps166
 go_wp2_with fail
 go_loopw [8] (fun j wr => ∃ (q : Nat), q ≤ L.length ∧ j = .int .i64 q ∧ Hid ((L.take q).any g = false) ∧ Below w.heap.size w wr) (fun j _ => L.length - (intOf j).toNat)
 case atStart => exact ⟨0, Nat.zero_le _, rfl, by show _ = _; simp, Below.refl _ _⟩
 case round =>
  obtain ⟨q, hq, rfl, hF, hbr⟩ := hrel
  by_cases hgo : q < L.length
  ·obtain ⟨p, hp⟩ : ∃ p, L[q]? = some p := ⟨L[q], by simp [hgo]⟩
   have HS : Hid ((L.take (q + 1)).any g = g p) := by
    show _ = _
    rw [List.take_add_one, hp, Option.toList_some, List.any_append, hF.out]
    simp
   obtain ⟨A, rfl, c0, c1, c2⟩ := (HL.out.below hbr) q p hp
   have HP := zA hp
   have HC := zA (HI.out p wr hbr HB0.out)
   clear hp
   go_wp2_with fail
   refine HC.out.mono ?_
   rintro e w3 ⟨rfl, hb3⟩
   have hbr3 := hbr.trans (hb3.mono hbr.size)
   clear hbr hb3 HC
   cases hx : g p
   ·rw [hx] at HS
    go_wp2_with fail
    exact ⟨⟨q + 1, by omega, by simp, HS, hbr3⟩, by simp [intOf]; omega⟩
   ·go_wp2_with fail
    go_ret
    refine ⟨⟨q, rfl, ?_⟩, hbr3⟩
    have hp := HP.out
    have : L.any g = true := by
     rw [List.any_eq_true]
     exact ⟨p, List.mem_of_getElem? hp, hx⟩
    simp [this]
  ·go_wp2_with fail
   go_ret
   refine ⟨⟨-1, rfl, ?_⟩, hbr⟩
   have h1 := hF.out
   rw [List.take_of_length_le (by omega)] at h1
   simp [h1]
theorem containsSO_any (B : Nat) (o1 : Option Addr) (cap1 : Nat) (M : List VW) (o : Option Addr) (cap : Nat) (L : List VW) (w : World) (hL : zZ w o L) (hlen : L.length ≤ 9223372036854775807) (hM : zZ w o1 M) (hlM : M.length ≤ 9223372036854775807) (hc : w.cell? ⟨B, 0, none⟩ = some (.slice o1 M.length cap1)) :
  Calls Tryz.prog 135 #[.slice o L.length cap, .func (.func 136) #[] #[.pointer (some ⟨B, 0, none⟩)]] w fun e w' =>
   e = .returned (.bool (L.any (anyW M))) ∧ Below w.heap.size w w' := by
 have HI := zA (indexSO_any B o1 cap1 M o cap L w hL hlen hM hlM hc)
 clear hL hM hlM hc
 generalize (anyW M) = g at *
 go_enter Tryz.func135, Tryz.ntmps135
 go_wp2_with fail
 refine HI.out.mono ?_
 rintro e w' ⟨⟨n, rfl, hn⟩, hb⟩
 have HN := zA hn
 clear hn
 go_wp2_with fail
 go_ret
 exact ⟨by rw [← HN.out]; rfl, hb⟩
theorem split_any (o : Option Addr) (cap : Nat) (L : List VW) (w : World) (hL : zZ w o L) (hlen : L.length ≤ 9223372036854775807) :
  Calls Tryz.prog 103 #[.slice o L.length cap] w fun x w' => x = .returned (.bool (splW L)) ∧ Below w.heap.size w w' := by
 have HB := zA ((zL.nil w).more (.cells #[.slice o L.length cap] 30) (by simp))
 have HC := zA (containsSO_any w.heap.size o cap L o cap L _ (hL.below HB.out.2.2) hlen (hL.below HB.out.2.2) hlen (HB.out.cell 0 0 _ _ _ _ rfl rfl rfl))
 clear hL
 have hs : splW L = L.any (anyW L) := rfl
 rw [hs]
 clear hs
 generalize L.any (anyW L) = R at *
 go_enter Tryz.func103, Tryz.ntmps103
 go_wp2_with fail
 refine HC.out.mono ?_
 rintro e w1 ⟨rfl, hb⟩
 have HB1 := zA (HB.out.on hb)
 clear hb HB
 go_wp2_with fail
 go_ret
 exact ⟨rfl, HB1.out.2.2⟩
theorem firstE_cons (e : Int) (l : List Int) : zG (e :: l) = if e = 0 then zG l else e := rfl
theorem dropW {L : List VW} {q : Nat} {x : VW} (h : L[q]? = some x) : L.drop q = x :: L.drop (q + 1) := by
 obtain ⟨h1, h2⟩ := List.getElem?_eq_some_iff.1 h
 rw [List.drop_eq_getElem_cons h1, h2]
theorem leadCheck_any (o : Option Addr) (cap : Nat) (L : List VW) (w : World) (hL : zZ w o L) (hlen : L.length ≤ 9223372036854775807) :
  Calls Tryz.prog 54 #[.slice o L.length cap] w fun x w' => x = .returned (.int .i64 (yL L)) ∧ Below w.heap.size w w' := by
 have HL := zA hL
 clear hL
 by_cases h3 : L.length = 3
 ·have h3' : ((L.length : Int) != 3) = false := by simp [h3]
  have HC : Hid (yL L = if zG (L.map jZ) = 0 then (if splW L = true then 4 else 0) else zG (L.map jZ)) := by
   show _ = _
   rw [yL, if_pos h3]
  have HS := zA (fun W (h : zZ W o L) => split_any o cap L W h hlen)
  generalize yL L = R at *
  generalize splW L = S at *
  have H3 := zA h3
  clear h3
  go_enter Tryz.func54, Tryz.ntmps54
  go_wp2_with fail
  go_loopw [11] (fun j wr => ∃ (q : Nat), q ≤ L.length ∧ j = .int .i64 q ∧ Hid (zG (L.map jZ) = zG ((L.drop q).map jZ)) ∧ Below w.heap.size w wr) (fun j _ => L.length - (intOf j).toNat)
  case atStart => exact ⟨0, Nat.zero_le _, rfl, by show _ = _; simp, Below.refl _ _⟩
  case round =>
   obtain ⟨q, hq, rfl, hE, hbr⟩ := hrel
   by_cases hgo : q < L.length
   ·obtain ⟨p, hp⟩ : ∃ p, L[q]? = some p := ⟨L[q], by simp [hgo]⟩
    obtain ⟨A, rfl, c0, c1, c2⟩ := (HL.out.below hbr) q p hp
    have hE' := hE.out
    rw [dropW hp, List.map_cons, firstE_cons] at hE'
    clear hE hp
    have HV := zA (fun W => checkView_any p.e p.l p.u W)
    have HE := zA hE'
    clear hE'
    have HW := zA hbr
    go_wp2_with fail
    refine (HV.out _).mono ?_
    rintro e w3 ⟨rfl, hb3⟩
    have HB := zA (HW.out.trans ((Below.alloc (Below.refl wr.heap.size wr) (Nat.le_refl _) (.cells #[.int .i64 p.e, .int .i64 p.l, .bool p.u] 107)).trans (hb3.mono (by simp)) |>.mono HW.out.size))
    clear hbr hb3
    generalize jZ ⟨p.e, p.l, p.u⟩ = E at *
    by_cases h0 : E = 0
    ·subst h0
     have HE' := zA (show zG (L.map jZ) = zG ((L.drop (q + 1)).map jZ) from HE.out)
     go_wp2_with fail
     exact ⟨⟨q + 1, by omega, by simp, HE', HB.out⟩, by simp [intOf]; omega⟩
    ·have h0' : (E != 0) = true := by simpa using h0
     have HR : Hid (R = E) := by
      show _ = _
      have h1 := HE.out
      rw [if_neg h0] at h1
      have h2 := HC.out
      rw [h1, if_neg h0] at h2
      exact h2
     clear h0
     go_wp2_with fail
     go_ret
     exact ⟨by rw [HR.out]; rfl, HB.out⟩
   ·have HR : Hid (R = if S = true then 4 else 0) := by
     show _ = _
     have h1 := hE.out
     rw [List.drop_of_length_le (by omega)] at h1
     have h2 := HC.out
     rw [h1] at h2
     simpa [zG] using h2
    have HW := zA hbr
    go_wp2_with fail
    refine (HS.out _ (HL.out.below HW.out)).mono ?_
    rintro e w3 ⟨rfl, hb3⟩
    have HB := zA (HW.out.trans (hb3.mono HW.out.size))
    clear hbr hb3
    cases S
    ·go_wp2_with fail
     go_ret
     exact ⟨by rw [HR.out]; rfl, HB.out⟩
    ·go_wp2_with fail
     go_ret
     exact ⟨by rw [HR.out]; rfl, HB.out⟩
 ·have h3' : ((L.length : Int) != 3) = true := by simp; omega
  have hR : yL L = 1 := by rw [yL, if_neg h3]
  rw [hR]
  clear hR h3
  go_enter Tryz.func54, Tryz.ntmps54
  go_wp2_with fail
  go_ret
  exact ⟨rfl, Below.refl _ _⟩
theorem unfW_any (who n : Int) (o : Option Addr) (cap : Nat) (L : List VW) (w : World) (hL : zZ w o L) (hlen : L.length ≤ 9223372036854775807) (hn : 0 < n ∧ n < 100) :
  Calls Tryz.prog 63 #[.slice o L.length cap, .int .i64 who, .int .i64 n] w fun x w' => x = .returned (.int .i64 (qO L who (n - 1))) ∧ Below w.heap.size w w' := by
 have HC := zA (fun W (h : zZ W o L) => leadCheck_any o cap L W h hlen)
 have HL := zA hL
 have hw : IntKind.i64.wrap (n - 1) = n - 1 := by rw [IntKind.wrap_i64]; omega
 have hp : ((yL L != 0) = true ∧ qO L who (n - 1) = yL L) ∨ (yL L = 0 ∧ wi who 0 (n - 1) = true ∧ qO L who (n - 1) = 0) ∨ (yL L = 0 ∧ wi who 0 (n - 1) = false ∧ qO L who (n - 1) = 3) := by
  rw [qO]
  by_cases h : yL L = 0
  ·cases wi who 0 (n - 1) <;> simp [h]
  ·simp [h]
 clear hL hn
 rcases hp with ⟨h1, h2⟩ | ⟨h1, h3, h2⟩ | ⟨h1, h3, h2⟩
 all_goals
  rw [h2]
  clear h2
  try rw [h1] at HC
  generalize yL L = E at *
  go_enter Tryz.func63, Tryz.ntmps63
  go_wp2_with fail
  refine (HC.out _ HL.out).mono ?_
  rintro e w1 ⟨rfl, hb⟩
  have HB := zA hb
  clear hb
  go_wp2_with (go_at_call 70; refine (yD _ _ _ _).mono ?_; rintro e w' ⟨rfl, rfl⟩)
  go_ret
  exact ⟨rfl, HB.out⟩
theorem newest1_any (v x : VW) (w : World) (h : 0 ≤ v.e ∧ v.e ≤ 99 ∧ 0 ≤ x.e ∧ x.e ≤ 99) :
  Calls Tryz.prog 114 #[vwV v.e v.l v.u, vwV x.e x.l x.u] w fun e w' => e = .returned (.int .i64 (v.e - x.e)) ∧ Below w.heap.size w w' := by
 have hw : IntKind.i64.wrap (v.e - x.e) = v.e - x.e := by rw [IntKind.wrap_i64]; omega
 clear h
 go_enter Tryz.func114, Tryz.ntmps114
 go_wp2_with fail
 go_ret
 exact ⟨rfl, ((Below.refl _ _).alloc (Nat.le_refl _) _).alloc (by simp) _⟩
theorem topW_snoc (L : List VW) (p : VW) (h : L ≠ []) : xG (L ++ [p]) = if (xG L).e < p.e then p else xG L := by
 cases L with
 | nil => exact absurd rfl h
 | cons x r =>
  show List.foldl _ x (r ++ [p]) = _
  rw [List.foldl_append]
  rfl
theorem topW_mem (L : List VW) (h : L ≠ []) : xG L ∈ L := by
 cases L with
 | nil => exact absurd rfl h
 | cons x r =>
  show List.foldl _ x r ∈ x :: r
  clear h
  induction r generalizing x with
  | nil => simp
  | cons y r ih =>
   rw [List.foldl_cons]
   split
   ·exact List.mem_cons_of_mem _ (ih y)
   ·have := ih x
    rw [List.mem_cons] at this
    rcases this with h | h
    ·rw [h]; simp
    ·exact List.mem_cons_of_mem _ (List.mem_cons_of_mem _ h)
theorem maxW_any (o : Option Addr) (cap : Nat) (L : List VW) (w : World) (hL : zZ w o L) (hlen : L.length ≤ 60) (h0 : 0 < L.length) (hr : ∀ p ∈ L, 0 ≤ p.e ∧ p.e ≤ 99) :
  Calls Tryz.prog 113 #[.slice o L.length cap, .func (.func 114) #[] #[]] w fun e w' => e = .returned (vwV (xG L).e (xG L).l (xG L).u) ∧ Below w.heap.size w w' := by
 have HL := zA hL
 have HR := zA hr
 obtain ⟨x, hx⟩ : ∃ x, L[0]? = some x := ⟨L[0], by simp [h0]⟩
 obtain ⟨A, rfl, x0, x1, x2⟩ := hL 0 x hx
 have HX : Hid (xG (L.take 1) = x) := by
  show _ = _
  rw [show L.take 1 = [x] by rw [List.take_one]; cases L <;> simp_all]
  rfl
 have e0 : A.add (0 * 3) = A := by simp [Addr.add]
 rw [e0] at x0 x1 x2
 have h1 : ¬ ((L.length : Int) < 1) := by omega
 have h1' : decide ((L.length : Int) < 1) = false := by simpa using h1
 have hlt := World.block_lt_of_cell? w _ x0
 clear hL hr hx e0
 go_enter Tryz.func113, Tryz.ntmps113
 go_wp2_with fail
 have HG := zA (((zL.nil w).more (.cells #[.int .i64 0, .int .i64 0, .bool false] 107) (by simp)).more (.cells #[.int .i64 x.e, .int .i64 x.l, .bool x.u] 107) (by simp))
 clear x0 x1 x2
 go_loopw [6] (fun j wr => ∃ (q : Nat) (m : VW), 1 ≤ q ∧ q ≤ L.length ∧ j = .int .i64 q ∧ Hid (xG (L.take q) = m) ∧ Hid (zL w wr [.cells #[.int .i64 0, .int .i64 0, .bool false] 107, .cells #[.int .i64 m.e, .int .i64 m.l, .bool m.u] 107])) (fun j _ => L.length - (intOf j).toNat)
 case atStart => exact ⟨1, x, Nat.le_refl _, by omega, rfl, HX, HG.out⟩
 case round =>
  obtain ⟨q, m, hq1, hq, rfl, hM, hG⟩ := hrel
  have l1 := hG.out.lt 1 (w.heap.size + 1) (by simp) rfl
  obtain ⟨c10, c11, c12⟩ := hG.out.c3 1 (w.heap.size + 1) rfl rfl rfl rfl rfl
  obtain ⟨f10, f11, f12⟩ := hG.out.z3 1 (w.heap.size + 1) rfl rfl
  have l0 := hG.out.lt 0 w.heap.size (by simp) rfl
  obtain ⟨c00, c01, c02⟩ := hG.out.c3 0 w.heap.size rfl rfl rfl rfl rfl
  obtain ⟨f00, f01, f02⟩ := hG.out.z3 0 w.heap.size rfl rfl
  by_cases hgo : q < L.length
  ·obtain ⟨p, hp⟩ : ∃ p, L[q]? = some p := ⟨L[q], by simp [hgo]⟩
   have hgI : (q : Int) < (L.length : Int) := by omega
   have hV := (HL.out.below hG.out.2.2) q p hp
   obtain ⟨A', eA, hV⟩ := hV
   cases eA
   have HV := zA hV
   have HS : Hid (xG (L.take (q + 1)) = if m.e < p.e then p else m) := by
    show _ = _
    rw [List.take_add_one, hp, Option.toList_some, topW_snoc _ _ (by intro h; have := congrArg List.length h; rw [List.length_take] at this; simp only [List.length_nil] at this; omega), hM.out]
   have HRm : Hid (0 ≤ p.e ∧ p.e ≤ 99 ∧ 0 ≤ m.e ∧ m.e ≤ 99) := by
    have h1 := HR.out p (List.mem_of_getElem? hp)
    have h2 := HR.out m (by rw [← hM.out]; exact List.mem_of_mem_take (topW_mem _ (by intro h; have := congrArg List.length h; rw [List.length_take] at this; simp only [List.length_nil] at this; omega)))
    exact ⟨h1.1, h1.2, h2.1, h2.2⟩
   have HC := zA (fun W => newest1_any p m W HRm.out)
   have hD : m.e < p.e ↔ 0 < p.e - m.e := by omega
   generalize p.e - m.e = D at HC hD
   have HD := zA hD
   clear hp hV hD
   go_wp2_with fail
   refine zJ (fun w' => zL w w' [.cells #[.int .i64 0, .int .i64 0, .bool false] 107, .cells #[.int .i64 m.e, .int .i64 m.l, .bool m.u] 107] ∧ Vw3 w' (A.add (q * 3)) p) [0, 1, 2, 3, 4, 5] 2 (by rfl) (by kernel_rfl) (by kernel_rfl) (by kernel_rfl) (fun c d v a w h => by cases d <;> exact h) ?_ ?_
   ·exact ⟨hG.out.on (Below.refl _ _).drew, HV.out.below (Below.refl _ _).drew HV.out.lt⟩
   refine zB (.func (.func 114) #[] #[]) rfl rfl (fun w' hS => ?_) ?_
   ·obtain ⟨hS1, y0, y1, y2⟩ := hS
    obtain ⟨k0, k1, k2⟩ := hS1.c3 1 (w.heap.size + 1) rfl rfl rfl rfl rfl
    go_simp
    try omega
   refine zB (.slice (some A) L.length cap) rfl rfl (fun w' hS => ?_) ?_
   ·obtain ⟨hS1, y0, y1, y2⟩ := hS
    obtain ⟨k0, k1, k2⟩ := hS1.c3 1 (w.heap.size + 1) rfl rfl rfl rfl rfl
    go_simp
    try omega
   refine zB (.int .i64 (q : Int)) rfl rfl (fun w' hS => ?_) ?_
   ·obtain ⟨hS1, y0, y1, y2⟩ := hS
    obtain ⟨k0, k1, k2⟩ := hS1.c3 1 (w.heap.size + 1) rfl rfl rfl rfl rfl
    go_simp
    try omega
   refine zB (.pointer (some (A.add (q * 3)))) rfl rfl (fun w' hS => ?_) ?_
   ·obtain ⟨hS1, y0, y1, y2⟩ := hS
    obtain ⟨k0, k1, k2⟩ := hS1.c3 1 (w.heap.size + 1) rfl rfl rfl rfl rfl
    go_simp
    try omega
   refine zB (vwV p.e p.l p.u) rfl rfl (fun w' hS => ?_) ?_
   ·obtain ⟨hS1, y0, y1, y2⟩ := hS
    obtain ⟨k0, k1, k2⟩ := hS1.c3 1 (w.heap.size + 1) rfl rfl rfl rfl rfl
    go_simp
    try omega
   refine zB (vwV m.e m.l m.u) rfl rfl (fun w' hS => ?_) ?_
   ·obtain ⟨hS1, y0, y1, y2⟩ := hS
    obtain ⟨k0, k1, k2⟩ := hS1.c3 1 (w.heap.size + 1) rfl rfl rfl rfl rfl
    go_simp
    try omega
   refine zE ?_
   have hGd := hG.out.on (Below.refl _ _).drew
   have HGd := zA (And.intro hGd (HV.out.below (Below.refl _ _).drew HV.out.lt))
   clear hGd l1 c10 f10 c11 f11 c12 f12 l0 c00 f00 c01 f01 c02 f02 HV hG
   generalize World.drew _ = wa at *
   refine oR 6 rfl rfl fun K hK => ?_
   go_simp
   refine (HC.out wa).mono ?_
   rintro e wb ⟨rfl, hb⟩
   have HGb := zA (And.intro (HGd.out.1.on hb) (HGd.out.2.below hb HGd.out.2.lt))
   clear hb HGd
   refine hK _ _ HGb.out ?_
   clear hK K
   refine oR 7 rfl rfl fun K hK => ?_
   go_simp
   refine hK _ _ HGb.out ?_
   clear hK K
   refine wpAnyH_done (by kernel_rfl) ?_ _
   have l1 := HGb.out.1.lt 1 (w.heap.size + 1) (by simp) rfl
   obtain ⟨c10, c11, c12⟩ := HGb.out.1.c3 1 (w.heap.size + 1) rfl rfl rfl rfl rfl
   obtain ⟨f10, f11, f12⟩ := HGb.out.1.z3 1 (w.heap.size + 1) rfl rfl
   obtain ⟨y0, y1, y2⟩ := HGb.out.2
   by_cases hmp : 0 < D
   ·have HS' := zA (show xG (L.take (q + 1)) = p by rw [HS.out, if_pos (HD.out.2 hmp)])
    have HP := zA ((((HGb.out.1.put 1 0 (w.heap.size + 1) _ _ (.int .i64 p.e) rfl rfl).put 1 1 (w.heap.size + 1) _ _ (.int .i64 p.l) rfl rfl).put 1 2 (w.heap.size + 1) _ _ (.bool p.u) rfl rfl))
    go_wp2_with fail
    exact ⟨⟨q + 1, p, by omega, by omega, by simp, HS', HP.out⟩, by simp [intOf]; omega⟩
   ·have HS' := zA (show xG (L.take (q + 1)) = m by rw [HS.out, if_neg (fun h => hmp (HD.out.1 h))])
    go_wp2_with fail
    exact ⟨⟨q + 1, m, by omega, by omega, by simp, HS', HGb.out.1⟩, by simp [intOf]; omega⟩
  ·have hgI : ¬ ((q : Int) < (L.length : Int)) := by omega
   have hM' := hM.out
   rw [List.take_of_length_le (by omega)] at hM'
   have HM := zA hM'
   clear hM' hM
   go_wp2_with fail
   refine bodyPost_ret (v := vwV m.e m.l m.u) (by simp [results, Tryz.results113, go_sem, *]) rfl ⟨by rw [HM.out], ?_⟩
   repeat (first | with_reducible refine Below.setCell ?_ (by simp; try omega) _ | exact hG.out.2.2)
theorem newest_any (o : Option Addr) (cap : Nat) (L : List VW) (w : World) (hL : zZ w o L) (hlen : L.length ≤ 60) (h0 : 0 < L.length) (hr : ∀ p ∈ L, 0 ≤ p.e ∧ p.e ≤ 99) :
  Calls Tryz.prog 67 #[.slice o L.length cap] w fun e w' => e = .returned (vwV (xG L).e (xG L).l (xG L).u) ∧ Below w.heap.size w w' := by
 have HG := zA ((zL.nil w).more (.cells #[.int .i64 0, .int .i64 0, .bool false] 107) (by simp))
 have HC := zA (maxW_any o cap L _ (hL.below HG.out.2.2) hlen h0 hr)
 clear hL hr
 generalize xG L = m at *
 go_enter Tryz.func67, Tryz.ntmps67
 go_wp2_with fail
 refine HC.out.mono ?_
 rintro e w1 ⟨rfl, hb⟩
 have HG1 := zA (HG.out.on hb)
 clear hb HG
 have l0 := HG1.out.lt 0 w.heap.size (by simp) rfl
 obtain ⟨c00, c01, c02⟩ := HG1.out.c3 0 w.heap.size rfl rfl rfl rfl rfl
 obtain ⟨f00, f01, f02⟩ := HG1.out.z3 0 w.heap.size rfl rfl
 go_wp2_with fail
 refine bodyPost_ret (v := vwV m.e m.l m.u) (by simp [results, Tryz.results67, go_sem, *]) rfl ⟨rfl, ?_⟩
 repeat (first | with_reducible refine Below.setCell ?_ (by simp; try omega) _ | exact HG1.out.2.2)
theorem now1_any (x : VW) (B : Nat) (e l : Int) (u : Bool) (w : World) (hc0 : w.cell? ⟨B, 0, none⟩ = some (.int .i64 x.e)) :
  Calls Tryz.prog 107 #[vwV e l u, .pointer (some ⟨B, 0, none⟩)] w fun y w' => y = .returned (.bool (lastG x ⟨e, l, u⟩)) ∧ Below w.heap.size w w' := by
 have hlt := World.block_lt_of_cell? w ⟨B, 0, none⟩ hc0
 obtain ⟨xe, xl, xu⟩ := x
 simp only [lastG]
 simp only [] at hc0
 cases u
 all_goals
  go_enter Tryz.func107, Tryz.ntmps107
  go_wp2_with fail
  go_ret
  exact ⟨by simp, (Below.refl _ _).alloc (Nat.le_refl _) _⟩
theorem win1_any (e l : Int) (u : Bool) (w : World) :
  Calls Tryz.prog 65 #[vwV e l u] w fun y w' => y = .returned (.bool (upG ⟨e, l, u⟩)) ∧ Below w.heap.size w w' := by
 go_enter Tryz.func65, Tryz.ntmps65
 go_wp2_with fail
 go_ret
 exact ⟨rfl, (Below.refl _ _).alloc (Nat.le_refl _) _⟩
theorem mostN_any (x : VW) (B : Nat) (o : Option Addr) (cap : Nat) (L : List VW) (w : World) (hL : zZ w o L) (hlen : L.length ≤ 60) (hc0 : w.cell? ⟨B, 0, none⟩ = some (.int .i64 x.e)) :
  Calls Tryz.prog 64 #[.slice o L.length cap, .func (.func 107) #[] #[.pointer (some ⟨B, 0, none⟩)]] w fun e w' => e = .returned (.bool (jS (lastG x) L)) ∧ Below w.heap.size w w' := by
 have HL := zA hL
 have HI := zA (fun (p : VW) (W : World) (hb : Below w.heap.size w W) => now1_any x B p.e p.l p.u W (by rw [hb.cell (p := ⟨B, 0, none⟩) (World.block_lt_of_cell? w ⟨B, 0, none⟩ hc0)]; exact hc0))
 clear hL hc0
 obtain ⟨R, hR⟩ : ∃ R, jS (lastG x) L = R := ⟨_, rfl⟩
 rw [hR]
 rw [jS] at hR
 have HR := zA hR
 clear hR
 generalize (lastG x) = g at *
 go_enter Tryz.func64, Tryz.ntmps64
 go_wp2_with fail
 go_loopw [5, 10] (fun n j wr => ∃ (q k : Nat), q ≤ L.length ∧ k ≤ q ∧ j = .int .i64 q ∧ n = .int .i64 k ∧ Hid (k = (L.take q).countP g) ∧ Below w.heap.size w wr) (fun _ j _ => L.length - (intOf j).toNat)
 case atStart => exact ⟨0, 0, Nat.zero_le _, Nat.le_refl _, rfl, rfl, by show _ = _; simp, Below.refl _ _⟩
 case round =>
  obtain ⟨q, k, hq, hk, rfl, rfl, hF, hbr⟩ := hrel
  by_cases hgo : q < L.length
  ·obtain ⟨p, hp⟩ : ∃ p, L[q]? = some p := ⟨L[q], by simp [hgo]⟩
   have HS : Hid ((L.take (q + 1)).countP g = k + if g p = true then 1 else 0) := by
    show _ = _
    rw [List.take_add_one, hp, Option.toList_some, List.countP_append, ← hF.out]
    simp [List.countP_cons]
   obtain ⟨A, rfl, c0, c1, c2⟩ := (HL.out.below hbr) q p hp
   have HC := zA (HI.out p (wr.alloc (.cells #[.int .i64 p.e, .int .i64 p.l, .bool p.u] 107)) (hbr.alloc hbr.size _))
   have HW := zA hbr
   clear hp hF hbr
   go_wp2_with fail
   refine HC.out.mono ?_
   rintro e w3 ⟨rfl, hb3⟩
   have HB := zA (HW.out.trans ((Below.alloc (Below.refl wr.heap.size wr) (Nat.le_refl _) (.cells #[.int .i64 p.e, .int .i64 p.l, .bool p.u] 107)).trans (hb3.mono (by simp)) |>.mono HW.out.size))
   clear hb3 HC HW
   cases hx : g p
   ·rw [hx] at HS
    have HS' := zA (show k = (L.take (q + 1)).countP g by rw [HS.out]; simp)
    clear HS
    go_wp2_with fail
    exact ⟨⟨q + 1, k, by omega, by omega, by simp, rfl, HS', HB.out⟩, by simp [intOf]; omega⟩
   ·rw [hx] at HS
    have HS' := zA (show k + 1 = (L.take (q + 1)).countP g by rw [HS.out]; simp)
    clear HS
    go_wp2_with fail
    exact ⟨⟨q + 1, k + 1, by omega, by omega, by simp, by simp, HS', HB.out⟩, by simp [intOf]; omega⟩
  ·have h1 := hF.out
   rw [List.take_of_length_le (by omega)] at h1
   have HR' := zA (show R = decide (3 < 2 * (k : Int)) by rw [← HR.out, ← h1])
   clear h1 hF HR
   go_wp2_with fail
   go_ret
   exact ⟨by rw [HR'.out]; rfl, hbr⟩
theorem mostU_any (o : Option Addr) (cap : Nat) (L : List VW) (w : World) (hL : zZ w o L) (hlen : L.length ≤ 60) :
  Calls Tryz.prog 64 #[.slice o L.length cap, .func (.func 65) #[] #[]] w fun e w' => e = .returned (.bool (jS upG L)) ∧ Below w.heap.size w w' := by
 have HL := zA hL
 have HI := zA (fun (p : VW) (W : World) (_ : Below w.heap.size w W) => win1_any p.e p.l p.u W)
 clear hL
 obtain ⟨R, hR⟩ : ∃ R, jS upG L = R := ⟨_, rfl⟩
 rw [hR]
 rw [jS] at hR
 have HR := zA hR
 clear hR
 generalize upG = g at *
 go_enter Tryz.func64, Tryz.ntmps64
 go_wp2_with fail
 go_loopw [5, 10] (fun n j wr => ∃ (q k : Nat), q ≤ L.length ∧ k ≤ q ∧ j = .int .i64 q ∧ n = .int .i64 k ∧ Hid (k = (L.take q).countP g) ∧ Below w.heap.size w wr) (fun _ j _ => L.length - (intOf j).toNat)
 case atStart => exact ⟨0, 0, Nat.zero_le _, Nat.le_refl _, rfl, rfl, by show _ = _; simp, Below.refl _ _⟩
 case round =>
  obtain ⟨q, k, hq, hk, rfl, rfl, hF, hbr⟩ := hrel
  by_cases hgo : q < L.length
  ·obtain ⟨p, hp⟩ : ∃ p, L[q]? = some p := ⟨L[q], by simp [hgo]⟩
   have HS : Hid ((L.take (q + 1)).countP g = k + if g p = true then 1 else 0) := by
    show _ = _
    rw [List.take_add_one, hp, Option.toList_some, List.countP_append, ← hF.out]
    simp [List.countP_cons]
   obtain ⟨A, rfl, c0, c1, c2⟩ := (HL.out.below hbr) q p hp
   have HC := zA (HI.out p (wr.alloc (.cells #[.int .i64 p.e, .int .i64 p.l, .bool p.u] 107)) (hbr.alloc hbr.size _))
   have HW := zA hbr
   clear hp hF hbr
   go_wp2_with fail
   refine HC.out.mono ?_
   rintro e w3 ⟨rfl, hb3⟩
   have HB := zA (HW.out.trans ((Below.alloc (Below.refl wr.heap.size wr) (Nat.le_refl _) (.cells #[.int .i64 p.e, .int .i64 p.l, .bool p.u] 107)).trans (hb3.mono (by simp)) |>.mono HW.out.size))
   clear hb3 HC HW
   cases hx : g p
   ·rw [hx] at HS
    have HS' := zA (show k = (L.take (q + 1)).countP g by rw [HS.out]; simp)
    clear HS
    go_wp2_with fail
    exact ⟨⟨q + 1, k, by omega, by omega, by simp, rfl, HS', HB.out⟩, by simp [intOf]; omega⟩
   ·rw [hx] at HS
    have HS' := zA (show k + 1 = (L.take (q + 1)).countP g by rw [HS.out]; simp)
    clear HS
    go_wp2_with fail
    exact ⟨⟨q + 1, k + 1, by omega, by omega, by simp, by simp, HS', HB.out⟩, by simp [intOf]; omega⟩
  ·have h1 := hF.out
   rw [List.take_of_length_le (by omega)] at h1
   have HR' := zA (show R = decide (3 < 2 * (k : Int)) by rw [← HR.out, ← h1])
   clear h1 hF HR
   go_wp2_with fail
   go_ret
   exact ⟨by rw [HR'.out]; rfl, hbr⟩
def jE (L : List VW) : Bool := decide (yL L = 0) && leadsW L
def nowI (L : List VW) : Int := if jE L = true then (xG L).l else 0
theorem jT {L : List VW} (h : yL L = 0) : ∀ p ∈ L, 0 ≤ p.e ∧ p.e ≤ 99 ∧ (p.l = 0 ∨ p.l = 1) := by
 obtain ⟨a, b, c, rfl, ha, hb, hc, -⟩ := chkVs_right h
 rw [chkW_zero] at ha hb hc
 intro p hp
 simp only [List.mem_cons, List.not_mem_nil, or_false] at hp
 rcases hp with rfl | rfl | rfl
 ·exact ⟨ha.1, ha.2.1, ha.2.2.1⟩
 ·exact ⟨hb.1, hb.2.1, hb.2.2.1⟩
 ·exact ⟨hc.1, hc.2.1, hc.2.2.1⟩
theorem right_len {L : List VW} (h : yL L = 0) : L.length = 3 := by
 obtain ⟨a, b, c, rfl, -⟩ := chkVs_right h
 rfl
theorem top_facts {L : List VW} (h : yL L = 0) : ∃ (te : Int) (k : Nat) (tu : Bool) (pl : VW), xG L = ⟨te, k, tu⟩ ∧ 0 ≤ te ∧ te ≤ 99 ∧ k < 2 ∧ L[k]? = some pl ∧ upAt L k = pl.u := by
 have hl := right_len h
 have hm := topW_mem L (by intro e; rw [e] at hl; simp at hl)
 obtain ⟨h1, h2, h3⟩ := jT h _ hm
 obtain ⟨k, hk, hk2⟩ : ∃ k : Nat, (xG L).l = (k : Int) ∧ k < 2 := by
  rcases h3 with h3 | h3
  ·exact ⟨0, by rw [h3]; rfl, by omega⟩
  ·exact ⟨1, by rw [h3]; rfl, by omega⟩
 obtain ⟨pl, hpl⟩ : ∃ pl, L[k]? = some pl := ⟨L[k]'(by omega), by simp⟩
 refine ⟨(xG L).e, k, (xG L).u, pl, ?_, h1, h2, hk2, hpl, ?_⟩
 ·rw [← hk]
 ·simp [upAt, hpl]
theorem now_any (o : Option Addr) (cap : Nat) (L : List VW) (w : World) (hL : zZ w o L) (hlen : L.length ≤ 9223372036854775807) :
  Calls Tryz.prog 59 #[.slice o L.length cap] w fun e w' => e = .returned (.tuple #[.int .i64 (nowI L), .bool (jE L), .int .i64 (yL L)]) ∧ Below w.heap.size w w' := by
 have HL := zA hL
 have HC := zA (fun W (h : zZ W o L) => leadCheck_any o cap L W h hlen)
 clear hL
 by_cases h0 : yL L = 0
 ·have hl3 := right_len h0
  have HN := zA (fun W (h : zZ W o L) => newest_any o cap L W h (by omega) (by omega) (fun p hp => ⟨(jT h0 p hp).1, (jT h0 p hp).2.1⟩))
  have HM := zA (fun W (h : zZ W o L) (B : Nat) (hc) => mostN_any (xG L) B o cap L W h (by omega) hc)
  obtain ⟨te, k, tu, pl, ht, ht0, ht1, hk, hpl, hup⟩ := top_facts h0
  have hp : ((te == 0) = true ∧ jE L = false) ∨ ((te == 0) = false ∧ pl.u = false ∧ jE L = false) ∨ ((te == 0) = false ∧ pl.u = true ∧ jS (lastG ⟨te, k, tu⟩) L = false ∧ jE L = false) ∨ ((te == 0) = false ∧ pl.u = true ∧ jS (lastG ⟨te, k, tu⟩) L = true ∧ jE L = true) := by
   rw [jE, leadsW, ht, h0]
   simp only [hup]
   by_cases e0 : te = 0
   ·left; simp [e0]
   ·right
    have e0' : (te == 0) = false := by simpa using e0
    cases pl.u
    ·left; simp [e0]
    ·right
     cases jS (lastG ⟨te, k, tu⟩) L
     ·left; simp [e0]
     ·right; simp [e0]
  have hI : nowI L = if jE L = true then (k : Int) else 0 := by rw [nowI, ht]
  generalize nowI L = ni at *
  rw [ht] at HN HM
  rw [h0] at HC ⊢
  have HP := zA hpl
  clear ht h0 hup hpl
  generalize jS (lastG ⟨te, k, tu⟩) L = M at *
  generalize jE L = nb at *
  obtain ⟨pe, pll, pu⟩ := pl
  simp only [] at hp
  have hkI : (k : Int) < (L.length : Int) := by omega
  clear hl3
  have HP2 := zA hp
  have HI := zA hI
  clear hp hI
  go_enter Tryz.func59, Tryz.ntmps59
  go_wp2_with fail
  refine (HC.out _ HL.out).mono ?_
  rintro e w1 ⟨rfl, hb1⟩
  have HL1 := zA (HL.out.below hb1)
  have HB1 := zA hb1
  clear hb1
  go_wp2_with fail
  refine (HN.out _ HL1.out).mono ?_
  rintro e w2 ⟨rfl, hb2⟩
  have HL2 := zA (HL1.out.below hb2)
  have HB2 := zA (HB1.out.trans (hb2.mono HB1.out.size))
  clear hb2 HB1 HL1
  have HG := zA ((zL.nil w2).more (.cells #[.int .i64 te, .int .i64 k, .bool tu] 107) (by simp))
  go_upto_region 5 with fail
  have HL3 := zA (HL2.out.below HG.out.2.2)
  generalize w2.alloc _ = wa at *
  obtain ⟨A, rfl, y0, y1, y2⟩ := HL3.out k _ HP.out
  obtain ⟨c00, c01⟩ := HG.out.c2 0 w2.heap.size rfl rfl rfl rfl
  rcases HP2.out with ⟨h1, h4⟩ | ⟨h1, h2, h4⟩ | ⟨h1, h2, h3, h4⟩ | ⟨h1, h2, h3, h4⟩
  ·subst h4
   have hI := HI.out
   simp only [Bool.false_eq_true, if_false] at hI
   subst hI
   go_wp2_with fail
   go_ret3
   exact ⟨rfl, HB2.out.trans (HG.out.2.2.mono HB2.out.size)⟩
  ·subst h4 h2
   have hI := HI.out
   simp only [Bool.false_eq_true, if_false] at hI
   subst hI
   go_wp2_with fail
   go_ret3
   exact ⟨rfl, HB2.out.trans (HG.out.2.2.mono HB2.out.size)⟩
  ·subst h4 h2 h3
   have hI := HI.out
   simp only [Bool.false_eq_true, if_false] at hI
   subst hI
   go_wp2_with fail
   refine (HM.out _ HL3.out w2.heap.size c00).mono ?_
   rintro e w3 ⟨rfl, hb3⟩
   have HG3 := zA (HG.out.on hb3)
   clear hb3
   go_wp2_with fail
   go_ret3
   exact ⟨rfl, HB2.out.trans (HG3.out.2.2.mono HB2.out.size)⟩
  ·subst h4 h2 h3
   have hI := HI.out
   simp only [if_true] at hI
   subst hI
   go_wp2_with fail
   refine (HM.out _ HL3.out w2.heap.size c00).mono ?_
   rintro e w3 ⟨rfl, hb3⟩
   have HG3 := zA (HG.out.on hb3)
   clear hb3 y0 y1 y2 c00 c01
   obtain ⟨c00, c01⟩ := HG3.out.c2 0 w2.heap.size rfl rfl rfl rfl
   go_wp2_with fail
   go_ret3
   exact ⟨rfl, HB2.out.trans (HG3.out.2.2.mono HB2.out.size)⟩
 ·have h0' : (yL L != 0) = true := by simpa using h0
  have hb' : jE L = false := by simp [jE, h0]
  have hi' : nowI L = 0 := by simp [nowI, hb']
  rw [hb', hi']
  clear hb' hi' h0
  generalize yL L = E at *
  go_enter Tryz.func59, Tryz.ntmps59
  go_wp2_with fail
  refine (HC.out _ HL.out).mono ?_
  rintro e w1 ⟨rfl, hb⟩
  have HB := zA hb
  clear hb
  go_wp2_with fail
  go_ret3
  exact ⟨rfl, HB.out⟩
theorem zN {P : Program} {w : World} {o : Oper} {a : Act} {K : Act → World → Prop} {Q : Exit → Act → World → Prop} (s x : Operand) (t : TypeId)
  (ho : o.op = .call { callee := .builtin .append, args := #[s, x], argTypes := #[t, t] })
  (base : Nat) (e : TypeId) (i : TypeInfo) (z : Value) (size bytes : Nat) (ht : P.underlying t = some (.slice e)) (hi : P.info? e = some i) (hz : i.zero = some z)
  (hsize : i.size = size) (hby : i.bytes = bytes) (hzs : z.cells.size = size) (hsz : 0 < size)
  (v : Value) (n : Nat) (xs : List Value) (hs : a.eval s = v) (hown : w.ownsRow base e size v n xs)
  (ox : Option Addr) (m c : Nat) (news : List Value) (hx : a.eval x = .slice ox m c) (hl : news.length = m * size) (hnews : ∀ ad, ox = some ad → ∀ j u, news[j]? = some u → w.cell? (ad.add j) = some u) (h1 : ∀ u ∈ news, u.oneCell' = true)
  (hnone : ox = none → m = 0 ∧ c = 0) (h63 : n + m ≤ maxLen) (hbytes : (n + m) * bytes ≤ 140737488355328) (hbase : base ≤ w.heap.size)
  (h : ∀ v' w', w'.ownsRow base e size v' (n + m) (xs ++ news) → w.grownBy w' v.ownBlock → K (a.put o.dst v') w') : o.wp P a w K Q := by
 cases ox with
 | none =>
  obtain ⟨rfl, rfl⟩ := hnone rfl
  have hrun := run_append_owned_none (P := P) (w := w) base t o.type e i size ht hi v n xs hown
  have hn : news = [] := by
   apply List.eq_nil_of_length_eq_zero
   rw [hl, Nat.zero_mul]
  unfold Oper.wp
  simp [execOp, ho, resolve, invoke, builtin, hs, hx, hrun, Result.andThen]
  refine h v w ?_ ⟨rfl, rfl, rfl, Nat.le_refl _, fun _ _ _ => rfl⟩
  rw [hn, List.append_nil, Nat.add_zero]
  exact hown
 | some ad =>
  obtain ⟨v', w', hr, h2, h3, _, _⟩ := run_append_own_at (P := P) w base t o.type e i z size bytes ht hi hz hsize hby hzs hsz v n xs hown ad m c news hl (hnews ad rfl) h1 h63 hbytes hbase
  unfold Oper.wp execOp
  simp only [ho, resolve, invoke, builtin, Sem.run_bind, Sem.run_pure, Result.andThen_ok, List.map_toArray, List.map_cons, List.map_nil, hs, hx, hr]
  exact h v' w' h2 h3
theorem ownsRow_block {w : World} {base : Nat} {e : TypeId} {size : Nat} {v : Value} {n : Nat} {xs : List Value} (h : w.ownsRow base e size v n xs) : ∀ g, v.ownBlock = some g → base ≤ g ∧ ∃ cur, w.heap[g]? = some (.cells cur e (0, 0)) := by
 intro g hg
 rcases h.2 with ⟨rfl, -⟩ | ⟨g', c, cur, rfl, h1, h2, -⟩
 ·cases hg
 ·simp only [Value.ownBlock, Option.some.injEq] at hg
  subst hg
  exact ⟨h1, cur, h2⟩
theorem ownsRow_far {w w' : World} {base : Nat} {e : TypeId} {size : Nat} {v : Value} {n : Nat} {xs : List Value} {row : Option Nat} (h : w.ownsRow base e size v n xs) (hg : w.grownBy w' row) (hne : ∀ g cur, row = some g → w.heap[g]? ≠ some (.cells cur e (0, 0))) : w'.ownsRow base e size v n xs := by
 refine ⟨h.1, ?_⟩
 rcases h.2 with h' | ⟨g, c, cur, rfl, h1, h2, h3⟩
 ·exact Or.inl h'
 ·refine Or.inr ⟨g, c, cur, rfl, h1, ?_, h3⟩
  have hlt : g < w.heap.size := by
   rcases Nat.lt_or_ge g w.heap.size with h | h
   ·exact h
   ·rw [Array.getElem?_eq_none h] at h2; cases h2
  rw [hg.block g hlt (fun hh => hne g cur hh.symm h2)]
  exact h2
theorem zF {w w' : World} {base : Nat} {e : TypeId} {size : Nat} {v : Value} {n : Nat} {xs : List Value} (h : w.ownsRow base e size v n xs) (hb : Below w.heap.size w w') : w'.ownsRow base e size v n xs :=
 ownsRow_far h (row := none) ⟨hb.os, hb.tape, hb.output, hb.size, fun k hk _ => hb.block k hk⟩ (fun _ _ h => by cases h)
theorem cellsW_cons (p : VW) (L : List VW) : yX (p :: L) = .int .i64 p.e :: .int .i64 p.l :: .bool p.u :: yX L := rfl
theorem cellsW_set (L : List VW) (q : Nat) (x : VW) : (((yX L).set (q * 3) (.int .i64 x.e)).set (q * 3 + 1) (.int .i64 x.l)).set (q * 3 + 2) (.bool x.u) = yX (L.set q x) := by
 induction L generalizing q with
 | nil => simp [yX]
 | cons p L ih =>
  cases q with
  | zero => simp [cellsW_cons]
  | succ q =>
   rw [show (q + 1) * 3 = q * 3 + 1 + 1 + 1 by omega, show q * 3 + 1 + 1 + 1 + 1 = (q * 3 + 1) + 1 + 1 + 1 by omega, show q * 3 + 1 + 1 + 1 + 2 = (q * 3 + 2) + 1 + 1 + 1 by omega]
   simp only [cellsW_cons, List.set_cons_succ]
   rw [ih q]
theorem cellsW_up (L : List VW) (q : Nat) (u : Bool) (hq : q < L.length) : (yX L).set (q * 3 + 2) (.bool u) = yX (L.modify q fun v => ⟨v.e, v.l, u⟩) := by
 induction L generalizing q with
 | nil => simp at hq
 | cons p L ih =>
  cases q with
  | zero => simp [cellsW_cons]
  | succ q =>
   rw [show (q + 1) * 3 + 2 = (q * 3 + 2) + 1 + 1 + 1 by omega]
   simp only [cellsW_cons, List.set_cons_succ, List.modify_succ_cons]
   rw [ih q (by simpa using hq)]
theorem cloneO_any (L : List VW) (A : Addr) (cap : Nat) (w : World) (hL : zZ w (some A) L) (hlen : L.length ≤ 60) (h0 : 0 < L.length) :
  Calls Tryz.prog 66 #[.slice (some A) L.length cap] w fun e w' => (∃ g c, e = .returned (.slice (some ⟨g, 0, none⟩) L.length c) ∧ w.heap.size ≤ g ∧ w'.ownsRow w.heap.size 107 3 (.slice (some ⟨g, 0, none⟩) L.length c) L.length (yX L)) ∧ Below w.heap.size w w' := by
 obtain ⟨i0, hi, hz0, hz1, hz2⟩ := info_parts infoVw
 have q : ∀ (w : World) (a : Option Addr) (n c n' c' : Nat), (binOp .eql 30 (.slice a n c) (.slice none n' c')).run Tryz.prog w = .ok (.bool a.isNone) w := fun w a n c n' c' => Lib.run_eql_slice_nil w _ _ a n c n' c' Tryz.underlying30
 have HN := zA (vws_cells (hL.below ((Below.refl w.heap.size w).alloc (Nat.le_refl _) (.cells #[] 107))))
 have HO := zA (World.ownsRow_made (base := w.heap.size) (e := 107) (size := 3) w #[] 0 (Nat.le_refl _) (by decide) rfl)
 clear hL
 go_enter Tryz.func66, Tryz.ntmps66
 go_wp2_with (at_builtin; refine wpList_append_own _ rfl _ _ 30 rfl w.heap.size 107 i0 _ 3 24 Tryz.underlying30 hi hz0 hz1 hz2 rfl (by decide) _ 0 _ rfl HO.out A L.length cap (yX L) rfl (cellsW_len L) HN.out (oneW L) (by unfold maxLen; omega) (by omega) (by simp) ?_; intro v1 w1 hown1 hgrow1 _)
 go_ret
 refine ⟨?_, ((Below.refl w.heap.size w).alloc (Nat.le_refl _) _).grown hgrow1 (by simp) (fun k hk => (HO.out.lt k hk).1)⟩
 have hn : 0 + L.length = L.length := by omega
 rw [hn] at hown1
 rcases hown1.2 with ⟨-, h⟩ | ⟨g, c, cur, rfl, hg, -⟩
 ·omega
 ·exact ⟨g, c, rfl, hg, hown1⟩
theorem Below.own {w w' : World} {g : Nat} (h : w.grownBy w' (some g)) {B : Nat} {w0 : World} (hb : Below B w0 w) (hB : B ≤ w.heap.size) (hg : B ≤ g) : Below B w0 w' :=
 hb.grown h hB (fun k hk => by cases hk; exact hg)
theorem promW_len (L : List VW) (e who : Int) : (yW L e who).length = L.length := by simp [yW]
theorem prom_step {L : List VW} {q : Nat} {p : VW} (e who : Int) (h : L[q]? = some p) :
  yW (L.take (q + 1)) e who ++ L.drop (q + 1) = (yW (L.take q) e who ++ L.drop q).set q (if p.u = true then ⟨e, who, true⟩ else p) := by
 have hq := (List.getElem?_eq_some_iff.1 h).1
 rw [List.take_add_one, h, Option.toList_some, dropW h]
 simp only [yW, List.map_append, List.map_cons, List.map_nil, List.append_assoc, List.cons_append, List.nil_append]
 rw [List.set_append_right _ _ (by simp; omega)]
 have : q - ((L.take q).map fun v => if v.u = true then (⟨e, who, true⟩ : VW) else v).length = 0 := by simp; omega
 rw [this]
 rfl
theorem prom_at {L : List VW} {q : Nat} {p : VW} (e who : Int) (h : L[q]? = some p) : (yW (L.take q) e who ++ L.drop q)[q]? = some p := by
 have hq := (List.getElem?_eq_some_iff.1 h).1
 rw [List.getElem?_append_right (by simp [yW]; omega)]
 have : q - (yW (L.take q) e who).length = 0 := by simp [yW]; omega
 rw [this, dropW h]
 rfl
theorem promised_any (L : List VW) (A : Addr) (cap : Nat) (e who : Int) (w : World) (hL : zZ w (some A) L) (hlen : L.length ≤ 60) (h0 : 0 < L.length) :
  Calls Tryz.prog 68 #[.slice (some A) L.length cap, .int .i64 e, .int .i64 who] w fun x w' => (∃ v, x = .returned v ∧ qK w' v (yW L e who) ∧ zK w.heap.size v) ∧ Below w.heap.size w w' := by
 have HC := zA (cloneO_any L A cap w hL hlen h0)
 obtain ⟨R, hR⟩ : ∃ R, R = yW L e who := ⟨_, rfl⟩
 rw [← hR]
 have HR := zA hR
 clear hL hR
 go_enter Tryz.func68, Tryz.ntmps68
 go_wp2_with fail
 refine HC.out.mono ?_
 rintro x w1 ⟨⟨g, c, rfl, hg, hown⟩, hb⟩
 have HO := zA hown
 have HB := zA hb
 clear hown hb HC
 go_wp2_with fail
 go_loopw [14] (fun j wr => ∃ (q : Nat), q ≤ L.length ∧ j = .int .i64 q ∧ Hid (wr.ownsRow w.heap.size 107 3 (.slice (some ⟨g, 0, none⟩) L.length c) L.length (yX (yW (L.take q) e who ++ L.drop q))) ∧ Hid (Below w.heap.size w wr)) (fun j _ => L.length - (intOf j).toNat)
 case atStart => exact ⟨0, Nat.zero_le _, rfl, by simpa [yW] using HO, HB⟩
 case round =>
  obtain ⟨q, hq, rfl, hO, hB⟩ := hrel
  by_cases hgo : q < L.length
  ·obtain ⟨p, hp⟩ : ∃ p, L[q]? = some p := ⟨L[q], by simp [hgo]⟩
   have HS := zA (prom_step e who hp)
   have HA := zA (jP _ _ _ (prom_at e who hp))
   generalize hM : yW (L.take q) e who ++ L.drop q = M at *
   clear hM
   have hcell : ∀ j, j < 3 → wr.cell? ⟨g, q * 3 + j, none⟩ = [Value.int .i64 p.e, .int .i64 p.l, .bool p.u][j]? := fun j hj => by rw [hO.out.cellAt _ (by omega)]; exact HA.out j hj
   have c0 : wr.cell? ⟨g, q * 3, none⟩ = some (.int .i64 p.e) := hcell 0 (by decide)
   have c1 : wr.cell? ⟨g, q * 3 + 1, none⟩ = some (.int .i64 p.l) := hcell 1 (by decide)
   have c2 : wr.cell? ⟨g, q * 3 + 2, none⟩ = some (.bool p.u) := hcell 2 (by decide)
   clear hcell hp
   have hgl := World.block_lt_of_cell? wr _ c0
   go_upto_region 5 with fail
   have hba := (Below.refl wr.heap.size wr).alloc (Nat.le_refl _) (.cells #[.int .i64 p.e, .int .i64 p.l, .bool p.u] 107)
   have HOa := zA (zF hO.out hba)
   have HBa := zA (hB.out.trans (hba.mono hB.out.size))
   have k0 := (cell_of_row (wr.alloc (.cells #[.int .i64 p.e, .int .i64 p.l, .bool p.u] 107)) wr.heap.size 2 _ _ _ (heap_alloc_new wr _))
   have hsz : (wr.alloc (.cells #[.int .i64 p.e, .int .i64 p.l, .bool p.u] 107)).heap.size = wr.heap.size + 1 := by simp
   clear hba c0 c1 c2 hO hB
   generalize wr.alloc _ = wa at *
   obtain ⟨pe, pl, pu⟩ := p
   simp only [] at *
   have k2 : wa.cell? ⟨wr.heap.size, 2, none⟩ = some (.bool pu) := k0
   clear k0
   have hga : g < wa.heap.size := by omega
   have z0 := HOa.out.frozenAt (q * 3)
   have z1 := HOa.out.frozenAt (q * 3 + 1)
   have z2 := HOa.out.frozenAt (q * 3 + 2)
   have hcell : ∀ j, j < 3 → wa.cell? ⟨g, q * 3 + j, none⟩ = [Value.int .i64 pe, .int .i64 pl, .bool pu][j]? := fun j hj => by rw [HOa.out.cellAt _ (by omega)]; exact HA.out j hj
   have c0 : wa.cell? ⟨g, q * 3, none⟩ = some (.int .i64 pe) := hcell 0 (by decide)
   have c1 : wa.cell? ⟨g, q * 3 + 1, none⟩ = some (.int .i64 pl) := hcell 1 (by decide)
   have c2 : wa.cell? ⟨g, q * 3 + 2, none⟩ = some (.bool pu) := hcell 2 (by decide)
   clear hcell
   cases pu
   ·have HM : Hid (yW (L.take (q + 1)) e who ++ L.drop (q + 1) = M) := by
     show _ = _
     rw [HS.out, if_neg (by decide)]
     have hM1 : M[q]? = some ⟨pe, pl, false⟩ := by
      have hl : q < M.length := by have h1 := (HOa.out).1; rw [cellsW_len] at h1; omega
      obtain ⟨y, hy⟩ : ∃ y, M[q]? = some y := ⟨M[q], by simp [hl]⟩
      have e0 := (jP M q y hy 0 (by decide)).symm.trans (HA.out 0 (by decide))
      have e1 := (jP M q y hy 1 (by decide)).symm.trans (HA.out 1 (by decide))
      have e2 := (jP M q y hy 2 (by decide)).symm.trans (HA.out 2 (by decide))
      simp at e0 e1 e2
      obtain ⟨y0, y1, y2⟩ := y
      simp only [] at e0 e1 e2
      subst e0 e1 e2
      exact hy
     obtain ⟨hlt, hM2⟩ := List.getElem?_eq_some_iff.1 hM1
     rw [← hM2, List.set_getElem_self]
    rw [← HM.out] at HOa
    go_wp2_with fail
    exact ⟨⟨q + 1, by omega, by simp, HOa, HBa⟩, by simp [intOf]; omega⟩
   ·have HP := zA (((HOa.out.stored (q * 3) (.int .i64 e)).1.stored (q * 3 + 1) (.int .i64 who)).1.stored (q * 3 + 2) (.bool true)).1
    rw [cellsW_set M q ⟨e, who, true⟩, ← show yW (L.take (q + 1)) e who ++ L.drop (q + 1) = M.set q ⟨e, who, true⟩ from HS.out] at HP
    have HBs := zA (((HBa.out.setCell (p := ⟨g, q * 3, none⟩) hg (.int .i64 e)).setCell (p := ⟨g, q * 3 + 1, none⟩) hg (.int .i64 who)).setCell (p := ⟨g, q * 3 + 2, none⟩) hg (.bool true))
    go_wp2_with fail
    exact ⟨⟨q + 1, by omega, by simp, HP, HBs⟩, by simp [intOf]; omega⟩
  ·have hO' := hO.out
   rw [List.take_of_length_le (by omega), List.drop_of_length_le (by omega), List.append_nil, ← HR.out] at hO'
   have HO' := zA hO'
   clear hO' hO
   go_wp2_with fail
   go_ret
   exact ⟨⟨_, rfl, vwsV_own HO'.out, fun k hk => by cases hk; exact hg⟩, hB.out⟩
def winR (L : List VW) (who : Int) : List VW := if winE L who = 0 then winL L who else []
def setR (L : List VW) (who : Int) (up : Bool) : List VW := if qO L who 2 = 0 then setL L who up else []
theorem zK.monoW {B C : Nat} {v : Value} (h : zK B v) (hc : C ≤ B) : zK C v := fun k hk => Nat.le_trans hc (h k hk)
theorem vwsV_nil (w : World) : qK w (.slice none 0 0) [] := ⟨none, 0, rfl, fun i p h => by simp at h, by simp, fun _ => rfl⟩
theorem fresh_nil (B : Nat) : zK B (.slice none 0 0) := fun k hk => by simp [Value.ownBlock] at hk
theorem unfW_right {L : List VW} {who n : Int} (h : qO L who n = 0) : yL L = 0 ∧ 0 ≤ who ∧ who ≤ n := by
 rw [qO] at h
 by_cases h0 : yL L = 0
 ·rw [if_pos h0] at h
  by_cases h1 : wi who 0 n = true
  ·exact ⟨h0, (yO _ _ _).1 h1⟩
  ·rw [if_neg h1] at h
   omega
 ·rw [if_neg h0] at h
  exact absurd h h0
theorem winE_ways (L : List VW) (who : Int) : (qO L who 1 ≠ 0 ∧ winE L who = qO L who 1 ∧ winB L who = false ∧ winR L who = []) ∨
  (qO L who 1 = 0 ∧ upAt L who = false ∧ winE L who = 0 ∧ winB L who = false ∧ winR L who = L) ∨ (qO L who 1 = 0 ∧ upAt L who = true ∧ jS upG L = false ∧ winE L who = 0 ∧ winB L who = false ∧ winR L who = L) ∨
  (qO L who 1 = 0 ∧ upAt L who = true ∧ jS upG L = true ∧ (xG L).e = 99 ∧ winE L who = 2 ∧ winB L who = false ∧ winR L who = []) ∨
  (qO L who 1 = 0 ∧ upAt L who = true ∧ jS upG L = true ∧ (xG L).e ≠ 99 ∧ winE L who = 0 ∧ winB L who = true ∧ winR L who = yW L ((xG L).e + 1) who) := by
 rw [winB, winR, winL, winE, winsW]
 by_cases h0 : qO L who 1 = 0
 ·right
  rw [if_pos h0]
  cases upAt L who
  ·left; simp [h0]
  ·right
   cases jS upG L
   ·left; simp [h0]
   ·right
    by_cases h1 : (xG L).e = 99
    ·left; simp [h0, h1]
    ·right; simp [h0, h1]
 ·left
  rw [if_neg h0]
  simp [h0]
theorem win_any (o : Option Addr) (cap : Nat) (L : List VW) (who : Int) (w : World) (hL : zZ w o L) (hlen : L.length ≤ 9223372036854775807) :
  Calls Tryz.prog 24 #[.slice o L.length cap, .int .i64 who] w fun e w' => (∃ o' n c', e = .returned (.tuple #[.slice o' n c', .bool (winB L who), .int .i64 (winE L who)]) ∧ qK w' (.slice o' n c') (winR L who) ∧ zK w.heap.size (.slice o' n c')) ∧ Below w.heap.size w w' := by
 have HL := zA hL
 have HU := zA (fun W (h : zZ W o L) => unfW_any who 2 o cap L W h hlen (by omega))
 simp only [show (2 : Int) - 1 = 1 from rfl] at HU
 clear hL
 by_cases h0 : qO L who 1 = 0
 ·obtain ⟨hc, hw0, hw1⟩ := unfW_right h0
  have hl3 := right_len hc
  obtain ⟨k, rfl⟩ : ∃ k : Nat, who = (k : Int) := ⟨who.toNat, by omega⟩
  obtain ⟨pl, hpl⟩ : ∃ pl, L[k]? = some pl := ⟨L[k]'(by omega), by simp⟩
  have hup : upAt L k = pl.u := by simp [upAt, hpl]
  have HN := zA (fun W (h : zZ W o L) => newest_any o cap L W h (by omega) (by omega) (fun p hp => ⟨(jT hc p hp).1, (jT hc p hp).2.1⟩))
  have HM := zA (fun W (h : zZ W o L) => mostU_any o cap L W h (by omega))
  have HK := zA (fun W (h : zZ W o L) => cloneW_any L o cap W h (by omega))
  have HPr := zA (fun W A e (h : zZ W (some A) L) => promised_any L A cap e k W h (by omega) (by omega))
  obtain ⟨te, tk, tu, -, ht, ht0, ht1, -⟩ := top_facts hc
  have hp := winE_ways L k
  rw [ht] at hp HN
  rw [h0] at hp HU
  simp only [ne_eq, not_true_eq_false, false_and, false_or, true_and, hup] at hp
  have hkI : (k : Int) < (L.length : Int) := by omega
  have HP := zA hpl
  have hwr : IntKind.i64.wrap (te + 1) = te + 1 := by rw [IntKind.wrap_i64]; omega
  clear h0 hc hl3 hup ht hpl hw0 hw1
  generalize jS upG L = M at *
  generalize winE L k = WE at *
  generalize winB L k = WB at *
  generalize winR L k = WR at *
  have HP2 := zA hp
  clear hp
  obtain ⟨pe, pll, pu⟩ := pl
  have hfd : ∀ w : World, (Instr.field 107 (vwV te tk tu) 0).run Tryz.prog w = .ok (.int .i64 te) w := fun _ => by rfl
  go_enter Tryz.func24, Tryz.ntmps24
  go_wp2_with fail
  refine (HU.out _ HL.out).mono ?_
  rintro e w1 ⟨rfl, hb1⟩
  have HL1 := zA (HL.out.below hb1)
  have HB1 := zA hb1
  clear hb1
  obtain ⟨A, rfl, y0, y1, y2⟩ := HL1.out k _ HP.out
  simp only [] at y0 y1 y2
  rcases HP2.out with ⟨h1, rfl, rfl, rfl⟩ | ⟨h1, rfl, rfl, rfl, rfl⟩ | ⟨h1, rfl, h2, rfl, rfl, rfl⟩ | ⟨h1, rfl, h2, rfl, rfl, h3⟩
  ·subst h1
   go_wp2_with fail
   refine (HK.out _ HL1.out).mono ?_
   rintro e w2 ⟨⟨v, rfl, ⟨o', c', rfl, hv⟩, hf⟩, hb2⟩
   have HV := zA (And.intro (show qK w2 (.slice o' WR.length c') WR from ⟨o', c', rfl, hv⟩) hf)
   have HB2 := zA (HB1.out.trans (hb2.mono HB1.out.size))
   clear hv hf hb2
   go_wp2_with fail
   go_ret3
   exact ⟨⟨_, _, _, rfl, HV.out.1, HV.out.2.monoW HB1.out.size⟩, HB2.out⟩
  ·subst h1
   go_wp2_with fail
   refine (HM.out _ HL1.out).mono ?_
   rintro e w2 ⟨rfl, hb2⟩
   have HL2 := zA (HL1.out.below hb2)
   have HB2 := zA (HB1.out.trans (hb2.mono HB1.out.size))
   clear hb2 y0 y1 y2
   go_wp2_with fail
   refine (HK.out _ HL2.out).mono ?_
   rintro e w3 ⟨⟨v, rfl, ⟨o', c', rfl, hv⟩, hf⟩, hb3⟩
   have HV := zA (And.intro (show qK w3 (.slice o' WR.length c') WR from ⟨o', c', rfl, hv⟩) hf)
   have HB3 := zA (HB2.out.trans (hb3.mono HB2.out.size))
   clear hv hf hb3
   go_wp2_with fail
   go_ret3
   exact ⟨⟨_, _, _, rfl, HV.out.1, HV.out.2.monoW HB2.out.size⟩, HB3.out⟩
  ·subst h1
   go_wp2_with fail
   refine (HM.out _ HL1.out).mono ?_
   rintro e w2 ⟨rfl, hb2⟩
   have HL2 := zA (HL1.out.below hb2)
   have HB2 := zA (HB1.out.trans (hb2.mono HB1.out.size))
   clear hb2 y0 y1 y2
   go_wp2_with fail
   refine (HN.out _ HL2.out).mono ?_
   rintro e w3 ⟨rfl, hb3⟩
   have HB3 := zA (HB2.out.trans (hb3.mono HB2.out.size))
   clear hb3
   subst h2
   go_wp2_with fail
   go_ret3
   exact ⟨⟨_, _, _, rfl, vwsV_nil _, fresh_nil _⟩, HB3.out⟩
  ·subst h1
   have h99 : decide (te + 1 > 99) = false := by simp; omega
   have H2 := zA h2
   clear h2
   go_wp2_with fail
   refine (HM.out _ HL1.out).mono ?_
   rintro e w2 ⟨rfl, hb2⟩
   have HL2 := zA (HL1.out.below hb2)
   have HB2 := zA (HB1.out.trans (hb2.mono HB1.out.size))
   clear hb2 y0 y1 y2
   go_wp2_with fail
   refine (HN.out _ HL2.out).mono ?_
   rintro e w3 ⟨rfl, hb3⟩
   have HL3 := zA (HL2.out.below hb3)
   have HB3 := zA (HB2.out.trans (hb3.mono HB2.out.size))
   clear hb3
   have h99' : te < 99 := by have := H2.out; omega
   go_wp2_with fail
   refine (HPr.out _ A (te + 1) HL3.out).mono ?_
   rintro e w4 ⟨⟨v, rfl, ⟨o', c', rfl, hv⟩, hf⟩, hb4⟩
   rw [← h3] at hv hf
   have HV := zA (And.intro (show qK w4 (.slice o' WR.length c') WR from ⟨o', c', rfl, hv⟩) hf)
   rw [← h3]
   have HB4 := zA (HB3.out.trans (hb4.mono HB3.out.size))
   clear hv hf hb4 h3
   go_wp2_with fail
   go_ret3
   exact ⟨⟨_, _, _, rfl, HV.out.1, HV.out.2.monoW HB3.out.size⟩, HB4.out⟩
 ·have h0' : (qO L who 1 != 0) = true := by simpa using h0
  rcases winE_ways L who with ⟨-, h1, h2, h3⟩ | ⟨h, -⟩ | ⟨h, -⟩ | ⟨h, -⟩ | ⟨h, -⟩
  ·rw [h1, h2, h3]
   clear h0 h1 h2 h3
   generalize qO L who 1 = E at *
   go_enter Tryz.func24, Tryz.ntmps24
   go_wp2_with fail
   refine (HU.out _ HL.out).mono ?_
   rintro e w1 ⟨rfl, hb⟩
   have HB := zA hb
   clear hb
   go_wp2_with fail
   go_ret3
   exact ⟨⟨_, _, _, rfl, vwsV_nil _, fresh_nil _⟩, HB.out⟩
  all_goals exact absurd h h0
structure GT where
 i : Int
 z : Int
 s : Int
 oa : Option Addr
 A : List TP
 ca : Nat
 v : Int
 od : Option Addr
 D : List Int
 cd : Nat
 l : Int
 u : Int
def GT.cells (g : GT) : List Value := [.int .i64 g.i, .int .i64 g.z, .int .i64 g.s, .slice g.oa g.A.length g.ca, .int .i64 g.v, .slice g.od g.D.length g.cd, .int .i64 g.l, .int .i64 g.u]
def yF (L : List GT) : List Value := L.flatMap GT.cells
theorem cellsG_app (L M : List GT) : yF (L ++ M) = yF L ++ yF M := by simp [yF]
theorem cellsG_len (L : List GT) : (yF L).length = L.length * 8 := by
 induction L with
 | nil => rfl
 | cons p L ih =>
  rw [yF, List.flatMap_cons, List.length_append, List.length_cons, ← yF, ih]
  simp [GT.cells]; omega
theorem oneG (L : List GT) : ∀ u ∈ yF L, u.oneCell' = true := by
 intro u hu
 simp only [yF, GT.cells, List.mem_flatMap, List.mem_cons, List.not_mem_nil, or_false] at hu
 obtain ⟨p, -, h⟩ := hu
 rcases h with rfl | rfl | rfl | rfl | rfl | rfl | rfl | rfl <;> rfl
theorem infoGt : (Tryz.prog.info? 58).map (fun i => (i.zero, i.size, i.bytes)) = some (some (.agg #[.int .i64 0, .int .i64 0, .int .i64 0, .slice none 0 0, .int .i64 0, .slice none 0 0, .int .i64 0, .int .i64 0]), 8, 96) := by kernel_rfl
theorem yN {w : World} {base : Nat} {e : TypeId} {size : Nat} {v : Value} {n : Nat} {xs : List Value} (h : w.ownsRow base e size v n xs) {p : Addr} (hp : p.block < base) (u : Value) : (w.setCell p u).ownsRow base e size v n xs := by
 refine ⟨h.1, ?_⟩
 rcases h.2 with h0 | ⟨g, cap, cur, h1, h2, h3, h4⟩
 ·exact .inl h0
 ·refine .inr ⟨g, cap, cur, h1, h2, ?_, h4⟩
  rw [heap_setCell_other w _ _ _ (by omega)]
  exact h3
def gt0 (i z : Int) : GT := ⟨i, z, 0, none, [], 0, 0, none, [], 0, 9, 100⟩
def xE : List GT := [gt0 0 1, gt0 1 2, gt0 2 4]
def newV : List VW := [⟨0, 0, true⟩, ⟨0, 0, true⟩, ⟨0, 0, true⟩]
abbrev stV (o1 o2 o3 : Option Addr) (n1 c1 n2 c2 n3 c3 : Nat) (v : Int) (od : Option Addr) (nd cd : Nat) (og : Option Addr) (ng cg : Nat) (ov : Option Addr) (nv cv : Nat) : Value :=
 .agg #[.slice o1 n1 c1, .slice o2 n2 c2, .slice o3 n3 c3, .int .i64 v, .slice od nd cd, .slice og ng cg, .slice ov nv cv]
theorem eight_new (w : World) (x : GT) (T : TypeId) : ∀ j u, x.cells[j]? = some u → (w.alloc (.cells x.cells.toArray T)).cell? ((⟨w.heap.size, 0, none⟩ : Addr).add j) = some u := by
 intro j u hj
 rw [show ((⟨w.heap.size, 0, none⟩ : Addr).add j) = ⟨w.heap.size, j, none⟩ by by_cases h : j = 0 <;> simp [Addr.add, h], cell_of_row _ _ j _ _ _ (heap_alloc_new w _)]
 simpa using hj
theorem three_newV (w : World) (T : TypeId) : ∀ j u, [Value.int .i64 0, .int .i64 0, .bool true][j]? = some u → (w.alloc (.cells #[.int .i64 0, .int .i64 0, .bool true] T)).cell? ((⟨w.heap.size, 0, none⟩ : Addr).add j) = some u := by
 intro j u hj
 match j, hj with
 | 0, hj | 1, hj | 2, hj =>
  simp at hj
  subst hj
  simp [Addr.add, go_sem]
theorem own_slice {w : World} {base : Nat} {e : TypeId} {size : Nat} {v : Value} {n : Nat} {xs : List Value} (h : w.ownsRow base e size v n xs) : ∃ o c, v = .slice o n c ∧ n ≤ c ∧ (o = none → c = 0) := by
 rcases h.2 with ⟨rfl, h0⟩ | ⟨g, cap, cur, rfl, -, -, hc, -⟩
 ·exact ⟨none, 0, by rw [h0], by omega, fun _ => rfl⟩
 ·exact ⟨_, cap, rfl, hc, fun h => by cases h⟩
theorem new_step {w wa w1 : World} {os : List Obj} {gv v v1 : Value} {n n' : Nat} {xs ys zs : List Value} (hl : os.length = 2) (hG : zL w wa os) (hO : wa.ownsRow (w.heap.size + 1 + 1) 58 8 gv 3 xs) (hV : wa.ownsRow (w.heap.size + 1 + 1) 107 3 v n ys)
  (hown : w1.ownsRow (w.heap.size + 1 + 1) 107 3 v1 n' zs) (hgrow : wa.grownBy w1 v.ownBlock) : ∃ o' c', v1 = .slice o' n' c' ∧ zL w w1 os ∧ w1.ownsRow (w.heap.size + 1 + 1) 58 8 gv 3 xs := by
 obtain ⟨o', c', rfl, -⟩ := own_slice hown
 have hsz := hG.2.1
 refine ⟨o', c', rfl, hG.keep ?_, ?_⟩
 ·exact (Below.refl _ _).grown hgrow (by omega) (fun k hk => by have := (hV.lt k hk).1; omega)
 ·refine ownsRow_far hO hgrow (fun g cur hg he => ?_)
  obtain ⟨-, cur', h⟩ := ownsRow_block hV g hg
  rw [h] at he
  simp at he
theorem new_any (w : World) :
  Calls Tryz.prog 27 #[] w fun e w' => (∃ og cg ov cv, e = .returned (stV none none none 0 0 0 0 0 0 0 none 0 0 og 3 cg ov 3 cv) ∧ w'.ownsRow (w.heap.size + 1 + 1) 58 8 (.slice og 3 cg) 3 (yF xE) ∧ w'.ownsRow (w.heap.size + 1 + 1) 107 3 (.slice ov 3 cv) 3 (yX newV)) ∧ Below w.heap.size w w' := by
 obtain ⟨i0, hi, hz0, hz1, hz2⟩ := info_parts infoGt
 obtain ⟨j0, ji, jz0, jz1, jz2⟩ := info_parts infoVw
 have HG0 := zA (((zL.nil w).more (.cells #[.slice none 0 0, .slice none 0 0, .slice none 0 0, .int .i64 0, .slice none 0 0, .slice none 0 0, .slice none 0 0] 32) (by simp)).more (.cells #[.slice none 0 0, .slice none 0 0, .slice none 0 0, .int .i64 0, .slice none 0 0, .slice none 0 0, .slice none 0 0] 92) (by simp))
 go_enter Tryz.func27, Tryz.ntmps27
 go_wp2_with fail
 generalize (w.alloc _).alloc _ = w0 at *
 go_loopw [3] (fun j wr => ∃ (q : Nat) (o : Option Addr) (c : Nat), q ≤ 3 ∧ j = .int .i64 q ∧ Hid (zL w wr [.cells #[.slice none 0 0, .slice none 0 0, .slice none 0 0, .int .i64 0, .slice none 0 0, .slice none 0 0, .slice none 0 0] 32, .cells #[.slice none 0 0, .slice none 0 0, .slice none 0 0, .int .i64 0, .slice none 0 0, .slice o q c, .slice none 0 0] 92]) ∧ Hid (wr.ownsRow (w.heap.size + 1 + 1) 58 8 (.slice o q c) q (yF (xE.take q)))) (fun j _ => 3 - (intOf j).toNat)
 case atStart => exact ⟨0, none, 0, by omega, rfl, HG0.out, World.ownsRow_nil _ _ _ _⟩
 case round =>
  obtain ⟨q, o, c, hq, rfl, hG, hO⟩ := hrel
  by_cases hgo : q < 3
  ·have hq3 : (q : Int) < 3 := by omega
   have l1 := hG.out.lt 1 (w.heap.size + 1) (by simp) rfl
   have c5 := hG.out.cell 1 5 (w.heap.size + 1) _ _ _ rfl rfl rfl
   have hsz := hG.out.2.1
   simp only [List.length_cons, List.length_nil] at hsz
   obtain ⟨z, hz⟩ : ∃ z : Int, z = 2 ^ q := ⟨_, rfl⟩
   have HS : Hid (xE.take (q + 1) = xE.take q ++ [gt0 q z]) := by
    show _ = _
    rw [hz]
    rcases (by omega : q = 0 ∨ q = 1 ∨ q = 2) with rfl | rfl | rfl <;> rfl
   have HZ := zA hz
   clear hz
   have hq0 : ¬ ((q : Int) < 0) := by omega
   go_wp2_with fail
   refine zJ (fun _ => True) [0, 1, 3, 4, 5, 6, 7] 6 (by rfl) (by kernel_rfl) (by kernel_rfl) (by kernel_rfl) (fun c d v a w h => by cases d <;> exact h) trivial ?_
   refine zB (.pointer (some ⟨w.heap.size + 1, 0, none⟩)) rfl rfl (fun w' _ => ?_) ?_
   ·go_simp
   refine zB (.pointer (some ⟨w.heap.size + 1, 5, none⟩)) rfl rfl (fun w' _ => ?_) ?_
   ·go_simp
   refine zB (.int .i64 (q : Int)) rfl rfl (fun w' _ => ?_) ?_
   ·go_simp
   refine zB (.int .i64 (q : Int)) rfl rfl (fun w' _ => ?_) ?_
   ·go_simp
   refine zB (.int .i64 z) rfl rfl (fun w' _ => ?_) ?_
   ·rw [HZ.out]; rcases (by omega : q = 0 ∨ q = 1 ∨ q = 2) with rfl | rfl | rfl <;> (go_simp; decide)
   refine zB (.agg #[.int .i64 9, .int .i64 100]) rfl rfl (fun w' _ => ?_) ?_
   ·go_simp
   refine zB (.agg #[.int .i64 (q : Int), .int .i64 z, .int .i64 0, .slice none 0 0, .int .i64 0, .slice none 0 0, .int .i64 9, .int .i64 100]) rfl rfl (fun w' _ => ?_) ?_
   ·go_simp
   refine zE ?_
   have HGd := zA (hG.out.on (Below.refl _ _).drew)
   have HOd := zA (zF hO.out (Below.refl _ _).drew)
   clear c5 l1 hG hO
   generalize World.drew _ = wa at *
   have hsz := HGd.out.2.1
   simp only [List.length_cons, List.length_nil] at hsz
   have l1 := HGd.out.lt 1 (w.heap.size + 1) (by simp) rfl
   have c5 := HGd.out.cell 1 5 (w.heap.size + 1) _ _ _ rfl rfl rfl
   have HGe := zA (HGd.out.on ((Below.refl wa.heap.size wa).alloc (Nat.le_refl _) (.cells #[.int .i64 (q : Int), .int .i64 z, .int .i64 0, .slice none 0 0, .int .i64 0, .slice none 0 0, .int .i64 9, .int .i64 100] 58)))
   have HOe := zA (zF HOd.out ((Below.refl wa.heap.size wa).alloc (Nat.le_refl _) (.cells #[.int .i64 (q : Int), .int .i64 z, .int .i64 0, .slice none 0 0, .int .i64 0, .slice none 0 0, .int .i64 9, .int .i64 100] 58)))
   have HN : Hid (∀ j u, (gt0 q z).cells[j]? = some u → (wa.alloc (.cells #[.int .i64 (q : Int), .int .i64 z, .int .i64 0, .slice none 0 0, .int .i64 0, .slice none 0 0, .int .i64 9, .int .i64 100] 58)).cell? ((⟨wa.heap.size, 0, none⟩ : Addr).add j) = some u) := eight_new wa (gt0 q z) 58
   have hsze : (wa.alloc (.cells #[.int .i64 (q : Int), .int .i64 z, .int .i64 0, .slice none 0 0, .int .i64 0, .slice none 0 0, .int .i64 9, .int .i64 100] 58)).heap.size = wa.heap.size + 1 := by simp
   have c5e := HGe.out.cell 1 5 (w.heap.size + 1) _ _ _ rfl rfl rfl
   have l1e := HGe.out.lt 1 (w.heap.size + 1) (by simp) rfl
   refine zT (i := 2) (j := 8) (by kernel_rfl) rfl rfl rfl rfl (fun K hK => ?_) (fun K hK => ?_)
   ·go_simp
    refine hK _ _ trivial ?_
    clear hK K
    refine oR 8 rfl rfl fun K hK => ?_
    go_simp
    refine hK _ _ trivial ?_
    clear hK K
    generalize wa.alloc (.cells #[.int .i64 (q : Int), .int .i64 z, .int .i64 0, .slice none 0 0, .int .i64 0, .slice none 0 0, .int .i64 9, .int .i64 100] 58) = wb at *
    refine oR 9 rfl rfl fun K hK => ?_
    refine zN _ _ 29 rfl (w.heap.size + 1 + 1) 58 i0 _ 8 96 Tryz.underlying29 hi hz0 hz1 hz2 rfl (by decide) (.slice o q c) q (yF (xE.take q)) (by go_simp) HOe.out (some ⟨wa.heap.size, 0, none⟩) 1 1 (gt0 q z).cells (by go_simp) rfl (fun ad e => by cases e; exact HN.out) (fun u hu => oneG [gt0 q z] u (by simpa [yF] using hu)) (fun e => by cases e) (by unfold maxLen; omega) (by omega) (by omega) ?_
    intro v' wc hown hgrow
    refine hK _ _ trivial ?_
    clear hK K
    obtain ⟨o', c', rfl, -⟩ := own_slice hown
    have HGf : Hid (zL w wc [.cells #[.slice none 0 0, .slice none 0 0, .slice none 0 0, .int .i64 0, .slice none 0 0, .slice none 0 0, .slice none 0 0] 32, .cells #[.slice none 0 0, .slice none 0 0, .slice none 0 0, .int .i64 0, .slice none 0 0, .slice o q c, .slice none 0 0] 92]) := by
     refine zA (HGe.out.keep ?_)
     exact (Below.refl _ _).grown hgrow (by simp; omega) (fun k hk => by have := (HOe.out.lt k hk).1; simp; omega)
    have HOf : Hid (wc.ownsRow (w.heap.size + 1 + 1) 58 8 (.slice o' (q + 1) c') (q + 1) (yF (xE.take (q + 1)))) := by
     show World.ownsRow _ _ _ _ _ _ _
     rw [HS.out, cellsG_app]
     simpa [yF] using hown
    clear hown hgrow
    have l1f := HGf.out.lt 1 (w.heap.size + 1) (by simp) rfl
    have c5f := HGf.out.cell 1 5 (w.heap.size + 1) _ _ _ rfl rfl rfl
    have f5f := HGf.out.frozen 1 5 (w.heap.size + 1) _ _ rfl rfl
    refine oR 10 rfl rfl fun K hK => ?_
    go_simp
    refine hK _ _ trivial ?_
    clear hK K
    refine oR 11 rfl rfl fun K hK => ?_
    go_simp
    refine hK _ _ trivial ?_
    clear hK K
    refine oR 12 rfl rfl fun K hK => ?_
    go_simp
    refine hK _ _ trivial ?_
    clear hK K
    refine wpAnyH_done (by kernel_rfl) ?_ _
    have HGg := zA (HGf.out.put 1 5 (w.heap.size + 1) _ _ (.slice o' (q + 1) c') rfl rfl)
    have HOg := zA (yN HOf.out (p := ⟨w.heap.size + 1, 5, none⟩) (by simp) (.slice o' (q + 1) c'))
    go_wp2_with fail
    exact ⟨⟨q + 1, o', c', by omega, by simp, HGg, HOg⟩, by simp [intOf]; omega⟩
   ·go_simp
    refine hK _ _ trivial ?_
    clear hK K
    refine oR 2 rfl rfl fun K hK => ?_
    go_simp
    refine hK _ _ trivial ?_
    clear hK K
    generalize wa.alloc (.cells #[.int .i64 (q : Int), .int .i64 z, .int .i64 0, .slice none 0 0, .int .i64 0, .slice none 0 0, .int .i64 9, .int .i64 100] 58) = wb at *
    refine oR 9 rfl rfl fun K hK => ?_
    refine zN _ _ 29 rfl (w.heap.size + 1 + 1) 58 i0 _ 8 96 Tryz.underlying29 hi hz0 hz1 hz2 rfl (by decide) (.slice o q c) q (yF (xE.take q)) (by go_simp) HOe.out (some ⟨wa.heap.size, 0, none⟩) 1 1 (gt0 q z).cells (by go_simp) rfl (fun ad e => by cases e; exact HN.out) (fun u hu => oneG [gt0 q z] u (by simpa [yF] using hu)) (fun e => by cases e) (by unfold maxLen; omega) (by omega) (by omega) ?_
    intro v' wc hown hgrow
    refine hK _ _ trivial ?_
    clear hK K
    obtain ⟨o', c', rfl, -⟩ := own_slice hown
    have HGf : Hid (zL w wc [.cells #[.slice none 0 0, .slice none 0 0, .slice none 0 0, .int .i64 0, .slice none 0 0, .slice none 0 0, .slice none 0 0] 32, .cells #[.slice none 0 0, .slice none 0 0, .slice none 0 0, .int .i64 0, .slice none 0 0, .slice o q c, .slice none 0 0] 92]) := by
     refine zA (HGe.out.keep ?_)
     exact (Below.refl _ _).grown hgrow (by simp; omega) (fun k hk => by have := (HOe.out.lt k hk).1; simp; omega)
    have HOf : Hid (wc.ownsRow (w.heap.size + 1 + 1) 58 8 (.slice o' (q + 1) c') (q + 1) (yF (xE.take (q + 1)))) := by
     show World.ownsRow _ _ _ _ _ _ _
     rw [HS.out, cellsG_app]
     simpa [yF] using hown
    clear hown hgrow
    have l1f := HGf.out.lt 1 (w.heap.size + 1) (by simp) rfl
    have c5f := HGf.out.cell 1 5 (w.heap.size + 1) _ _ _ rfl rfl rfl
    have f5f := HGf.out.frozen 1 5 (w.heap.size + 1) _ _ rfl rfl
    refine oR 10 rfl rfl fun K hK => ?_
    go_simp
    refine hK _ _ trivial ?_
    clear hK K
    refine oR 11 rfl rfl fun K hK => ?_
    go_simp
    refine hK _ _ trivial ?_
    clear hK K
    refine oR 12 rfl rfl fun K hK => ?_
    go_simp
    refine hK _ _ trivial ?_
    clear hK K
    refine wpAnyH_done (by kernel_rfl) ?_ _
    have HGg := zA (HGf.out.put 1 5 (w.heap.size + 1) _ _ (.slice o' (q + 1) c') rfl rfl)
    have HOg := zA (yN HOf.out (p := ⟨w.heap.size + 1, 5, none⟩) (by simp) (.slice o' (q + 1) c'))
    go_wp2_with fail
    exact ⟨⟨q + 1, o', c', by omega, by simp, HGg, HOg⟩, by simp [intOf]; omega⟩
  ·have hq3 : ¬ ((q : Int) < 3) := by omega
   obtain rfl : q = 3 := by omega
   go_wp2_with fail
   go_loopw [19] (fun j ws => ∃ (p : Nat) (ov : Option Addr) (cv : Nat), p ≤ 3 ∧ j = .int .i64 p ∧ Hid (zL w ws [.cells #[.slice none 0 0, .slice none 0 0, .slice none 0 0, .int .i64 0, .slice none 0 0, .slice none 0 0, .slice none 0 0] 32, .cells #[.slice none 0 0, .slice none 0 0, .slice none 0 0, .int .i64 0, .slice none 0 0, .slice o 3 c, .slice ov p cv] 92]) ∧ Hid (ws.ownsRow (w.heap.size + 1 + 1) 58 8 (.slice o 3 c) 3 (yF xE)) ∧ Hid (ws.ownsRow (w.heap.size + 1 + 1) 107 3 (.slice ov p cv) p (yX (newV.take p)))) (fun j _ => 3 - (intOf j).toNat)
   case atStart => exact ⟨0, none, 0, by omega, rfl, hG, hO, World.ownsRow_nil _ _ _ _⟩
   case round =>
    obtain ⟨p, ov, cv, hp, rfl, hG2, hO2, hV2⟩ := hrel
    clear hG hO
    by_cases hgp : p < 3
    ·have hp3 : (p : Int) < 3 := by omega
     have l1 := hG2.out.lt 1 (w.heap.size + 1) (by simp) rfl
     have c6 := hG2.out.cell 1 6 (w.heap.size + 1) _ _ _ rfl rfl rfl
     have f6 := hG2.out.frozen 1 6 (w.heap.size + 1) _ _ rfl rfl
     have hsz := hG2.out.2.1
     simp only [List.length_cons, List.length_nil] at hsz
     have HS : Hid (newV.take (p + 1) = newV.take p ++ [⟨0, 0, true⟩]) := by
      rcases (by omega : p = 0 ∨ p = 1 ∨ p = 2) with rfl | rfl | rfl <;> rfl
     have hba := (Below.refl wr.heap.size wr).alloc (Nat.le_refl _) (.cells #[.int .i64 0, .int .i64 0, .bool true] 107)
     have HGa := zA (hG2.out.on hba)
     have HOa := zA (zF hO2.out hba)
     have HVa := zA (zF hV2.out hba)
     have HN := zA (three_newV wr 107)
     clear hba
     go_wp2_with (at_builtin; refine wpList_append_own _ rfl (.tmp 23) (.tmp 25) 30 rfl (w.heap.size + 1 + 1) 107 j0 _ 3 24 Tryz.underlying30 ji jz0 jz1 jz2 rfl (by decide) _ p _ rfl HVa.out ⟨wr.heap.size, 0, none⟩ 1 1 [.int .i64 0, .int .i64 0, .bool true] rfl rfl HN.out (by intro u hu; simp at hu; rcases hu with rfl | rfl <;> rfl) (by unfold maxLen; omega) (by omega) (by simp; omega) ?_; intro v1 w1 hown1 hgrow1 _; obtain ⟨o', c', rfl, hx1, hx2⟩ := new_step rfl HGa.out HOa.out HVa.out hown1 hgrow1; have HGf := zA hx1; have HOf := zA hx2; have HVf := zA hown1; clear hown1 hgrow1 hx1 hx2 c6 f6 l1; have l1f := HGf.out.lt 1 (w.heap.size + 1) (by simp) rfl; have c6f := HGf.out.cell 1 6 (w.heap.size + 1) _ _ _ rfl rfl rfl; have f6f := HGf.out.frozen 1 6 (w.heap.size + 1) _ _ rfl rfl)
     rw [show yX (newV.take p) ++ [Value.int .i64 0, .int .i64 0, .bool true] = yX (newV.take (p + 1)) by rw [HS.out, cellsW_app]; rfl] at HVf
     have HGg := zA (HGf.out.put 1 6 (w.heap.size + 1) _ _ (.slice o' (p + 1) c') rfl rfl)
     have HOg := zA (yN HOf.out (p := ⟨w.heap.size + 1, 6, none⟩) (by simp) (.slice o' (p + 1) c'))
     have HVg := zA (yN HVf.out (p := ⟨w.heap.size + 1, 6, none⟩) (by simp) (.slice o' (p + 1) c'))
     exact ⟨⟨p + 1, o', c', by omega, by simp, HGg, HOg, HVg⟩, by simp [intOf]; omega⟩
    ·have hp3 : ¬ ((p : Int) < 3) := by omega
     obtain rfl : p = 3 := by omega
     have l1 := hG2.out.lt 1 (w.heap.size + 1) (by simp) rfl
     have l0 := hG2.out.lt 0 w.heap.size (by simp) rfl
     obtain ⟨k0, k1, k2, k3, k4, k5, k6⟩ := hG2.out.c7 1 (w.heap.size + 1) rfl rfl rfl rfl rfl rfl rfl rfl rfl
     obtain ⟨r0, r1, r2, r3, r4, r5, r6⟩ := hG2.out.c7 0 w.heap.size rfl rfl rfl rfl rfl rfl rfl rfl rfl
     obtain ⟨f0, f1, f2, f3, f4, f5, f6⟩ := hG2.out.z7 0 w.heap.size rfl rfl
     go_wp2_with fail
     refine bodyPost_ret (v := stV none none none 0 0 0 0 0 0 0 none 0 0 o 3 c ov 3 cv) (by simp [results, Tryz.results27, go_sem, *]) rfl ⟨⟨o, c, ov, cv, rfl, ?_, ?_⟩, ?_⟩
     ·repeat (first | with_reducible refine yN ?_ (by simp; omega) _ | exact hO2.out)
     ·repeat (first | with_reducible refine yN ?_ (by simp; omega) _ | exact hV2.out)
     ·repeat (first | with_reducible refine Below.setCell ?_ (by simp) _ | exact hG2.out.2.2)
theorem qR (n : Int) (w : World) : Calls Tryz.prog 108 #[.int .i64 n] w fun e w' => e = .returned (.bool (wi n 0 2)) ∧ w' = w := by
 go_enter Tryz.func108, Tryz.ntmps108
 go_wp2_with fail
 refine (yD _ _ _ _).mono ?_
 rintro e w1 ⟨rfl, hw⟩
 obtain rfl := hw.symm
 go_wp2_with fail
 go_ret
 exact ⟨rfl, rfl⟩
theorem twi11_any (a g s m z ps : Int) (B : Nat) (w : World) (hc : w.cell? ⟨B, 2, none⟩ = some (.int .i64 ps)) :
  Calls Tryz.prog 134 #[tp a g s m z, .pointer (some ⟨B, 0, none⟩)] w fun e w' => e = .returned (.bool (s == ps)) ∧ Below w.heap.size w w' := by
 have hlt : B < w.heap.size := World.block_lt_of_cell? w ⟨B, 2, none⟩ hc
 go_enter Tryz.func134, Tryz.ntmps134
 go_wp2_with fail
 go_ret
 exact ⟨rfl, (Below.refl _ _).alloc (Nat.le_refl _) _⟩
theorem indexQ_any (ps : Int) (B : Nat) (o : Option Addr) (cap : Nat) (L : List TP) (w : World) (hL : zI w o L) (hlen : L.length ≤ 9223372036854775807) (hc : w.cell? ⟨B, 2, none⟩ = some (.int .i64 ps)) :
  Calls Tryz.prog 165 #[.slice o L.length cap, .func (.func 134) #[] #[.pointer (some ⟨B, 0, none⟩)]] w fun e w' =>
   (∃ n : Int, e = .returned (.int .i64 n) ∧ decide (0 ≤ n) = L.any (fun y => y.s == ps)) ∧ Below w.heap.size w w' := by
 have HL := zA hL
 have HC := zA hc
 clear hL hc
 go_enter Tryz.func165, Tryz.ntmps165
 go_wp2_with fail
 go_loopw [8] (fun j wr => ∃ (q : Nat), q ≤ L.length ∧ j = .int .i64 q ∧ Hid ((L.take q).any (fun y => y.s == ps) = false) ∧ Below w.heap.size w wr) (fun j _ => L.length - (intOf j).toNat)
 case atStart => exact ⟨0, Nat.zero_le _, rfl, zA (by simp), Below.refl _ _⟩
 case round =>
  obtain ⟨q, hq, rfl, hF, hbr⟩ := hrel
  by_cases hgo : q < L.length
  ·obtain ⟨x, hp⟩ : ∃ x, L[q]? = some x := ⟨L[q], by simp [hgo]⟩
   have HS : Hid ((L.take (q + 1)).any (fun y => y.s == ps) = (x.s == ps)) := zA (by
    rw [List.take_add_one, hp, Option.toList_some, List.any_append, hF.out]
    simp)
   obtain ⟨A', rfl, c0, c1, c2, c3, c4⟩ := (HL.out.below hbr) q x hp
   have HP := zA hp
   clear hp
   go_wp2_with fail
   refine (twi11_any _ _ _ _ _ ps B _ (by rw [hbr.cell (World.block_lt_of_cell? w _ HC.out)]; exact HC.out)).mono ?_
   rintro e w3 ⟨rfl, hb3⟩
   have hbr3 := hbr.trans (hb3.mono hbr.size)
   clear hbr hb3
   cases hx : (x.s == ps)
   ·rw [hx] at HS
    clear hx
    go_wp2_with fail
    exact ⟨⟨q + 1, by omega, by simp, HS, hbr3⟩, by simp [intOf]; omega⟩
   ·have HX := zA hx
    clear hx
    go_wp2_with fail
    go_ret
    refine ⟨⟨q, rfl, ?_⟩, hbr3⟩
    have : L.any (fun y => y.s == ps) = true := List.any_eq_true.2 ⟨x, List.mem_of_getElem? HP.out, HX.out⟩
    simp only [this]
    simp
  ·go_wp2_with fail
   go_ret
   refine ⟨⟨-1, rfl, ?_⟩, hbr⟩
   have h1 := hF.out
   rw [List.take_of_length_le (by omega)] at h1
   rw [h1]
   rfl
theorem containsQ_any (ps : Int) (B : Nat) (o : Option Addr) (cap : Nat) (L : List TP) (w : World) (hL : zI w o L) (hlen : L.length ≤ 9223372036854775807) (hc : w.cell? ⟨B, 2, none⟩ = some (.int .i64 ps)) :
  Calls Tryz.prog 132 #[.slice o L.length cap, .func (.func 134) #[] #[.pointer (some ⟨B, 0, none⟩)]] w fun e w' => e = .returned (.bool (L.any (fun y => y.s == ps))) ∧ Below w.heap.size w w' := by
 have HI := zA (indexQ_any ps B o cap L w hL hlen hc)
 clear hL hc
 go_enter Tryz.func132, Tryz.ntmps132
 go_wp2_with fail
 refine HI.out.mono ?_
 rintro e w' ⟨⟨n, rfl, hn⟩, hb⟩
 have HN := zA hn
 clear hn
 go_wp2_with fail
 go_ret
 exact ⟨by rw [← HN.out]; rfl, hb⟩
def twiG (i sq : Int) (A : List TP) (p : TP) : Bool := (p.g == i) && (decide (sq < p.s) || A.any fun y => y.s == p.s)
theorem twi1_any (a g s m z i sq : Int) (oa : Option Addr) (A : List TP) (ca G : Nat) (w : World) (h0 : w.cell? ⟨G, 0, none⟩ = some (.int .i64 i)) (h2 : w.cell? ⟨G, 2, none⟩ = some (.int .i64 sq)) (h3 : w.cell? ⟨G, 3, none⟩ = some (.slice oa A.length ca)) (hA : zI w oa A) (hlA : A.length ≤ 9223372036854775807) :
  Calls Tryz.prog 133 #[tp a g s m z, .pointer (some ⟨G, 0, none⟩)] w fun e w' => e = .returned (.bool (twiG i sq A ⟨a, g, s, m, z⟩)) ∧ Below w.heap.size w w' := by
 have HB := zA ((zL.nil w).more (.cells #[.int .i64 a, .int .i64 g, .int .i64 s, .int .i64 m, .int .i64 z] 79) (by simp))
 have hlt : G < w.heap.size := World.block_lt_of_cell? w ⟨G, 0, none⟩ h0
 have HC := zA (containsQ_any s w.heap.size oa ca A (w.alloc (.cells #[.int .i64 a, .int .i64 g, .int .i64 s, .int .i64 m, .int .i64 z] 79)) (hA.below HB.out.2.2) hlA (HB.out.cell 0 2 w.heap.size _ _ _ rfl rfl rfl))
 clear hA
 have hp : (g == i) = false ∨ ((g == i) = true ∧ sq < s) ∨ ((g == i) = true ∧ ¬ sq < s) := by cases (g == i) <;> by_cases h : sq < s <;> simp [h]
 rcases hp with h1 | ⟨h1, h4⟩ | ⟨h1, h4⟩
 ·have hr : twiG i sq A ⟨a, g, s, m, z⟩ = false := by simp only [twiG, h1, Bool.false_and]
  rw [hr]
  go_enter Tryz.func133, Tryz.ntmps133
  go_wp2_with fail
  go_ret
  exact ⟨rfl, HB.out.2.2⟩
 ·have hr : twiG i sq A ⟨a, g, s, m, z⟩ = true := by simp only [twiG, h1, Bool.true_and, decide_eq_true h4, Bool.true_or]
  rw [hr]
  go_enter Tryz.func133, Tryz.ntmps133
  go_wp2_with fail
  go_ret
  exact ⟨rfl, HB.out.2.2⟩
 ·have hr : twiG i sq A ⟨a, g, s, m, z⟩ = A.any fun y => y.s == s := by simp only [twiG, h1, Bool.true_and, decide_eq_false h4, Bool.false_or]
  rw [hr]
  generalize (A.any fun y => y.s == s) = R at *
  go_enter Tryz.func133, Tryz.ntmps133
  go_wp2_with fail
  refine HC.out.mono ?_
  rintro e w1 ⟨rfl, hb⟩
  have HB1 := zA (HB.out.on hb)
  clear hb HB
  go_wp2_with fail
  go_ret
  exact ⟨rfl, HB1.out.2.2⟩
theorem indexG_any (i sq : Int) (oa : Option Addr) (A : List TP) (ca G : Nat) (o : Option Addr) (cap : Nat) (L : List TP) (w : World) (hL : zI w o L) (hlen : L.length ≤ 9223372036854775807) (h0 : w.cell? ⟨G, 0, none⟩ = some (.int .i64 i)) (h2 : w.cell? ⟨G, 2, none⟩ = some (.int .i64 sq)) (h3 : w.cell? ⟨G, 3, none⟩ = some (.slice oa A.length ca)) (hA : zI w oa A) (hlA : A.length ≤ 9223372036854775807) :
  Calls Tryz.prog 165 #[.slice o L.length cap, .func (.func 133) #[] #[.pointer (some ⟨G, 0, none⟩)]] w fun e w' =>
   (∃ n : Int, e = .returned (.int .i64 n) ∧ decide (0 ≤ n) = L.any (twiG i sq A)) ∧ Below w.heap.size w w' := by
 have HL := zA hL
 have HC := zA (And.intro h0 (And.intro h2 (And.intro h3 hA)))
 clear hL h0 h2 h3 hA
 go_enter Tryz.func165, Tryz.ntmps165
 go_wp2_with fail
 go_loopw [8] (fun j wr => ∃ (q : Nat), q ≤ L.length ∧ j = .int .i64 q ∧ Hid ((L.take q).any (twiG i sq A) = false) ∧ Below w.heap.size w wr) (fun j _ => L.length - (intOf j).toNat)
 case atStart => exact ⟨0, Nat.zero_le _, rfl, zA (by simp), Below.refl _ _⟩
 case round =>
  obtain ⟨q, hq, rfl, hF, hbr⟩ := hrel
  by_cases hgo : q < L.length
  ·obtain ⟨x, hp⟩ : ∃ x, L[q]? = some x := ⟨L[q], by simp [hgo]⟩
   have HS : Hid ((L.take (q + 1)).any (twiG i sq A) = (twiG i sq A ⟨x.a, x.g, x.s, x.m, x.z⟩)) := zA (by
    rw [List.take_add_one, hp, Option.toList_some, List.any_append, hF.out]
    simp)
   obtain ⟨A', rfl, c0, c1, c2, c3, c4⟩ := (HL.out.below hbr) q x hp
   have HP := zA hp
   clear hp
   go_wp2_with fail
   refine (twi1_any _ _ _ _ _ i sq oa A ca G _ (by rw [hbr.cell (World.block_lt_of_cell? w _ HC.out.1)]; exact HC.out.1) (by rw [hbr.cell (World.block_lt_of_cell? w _ HC.out.2.1)]; exact HC.out.2.1) (by rw [hbr.cell (World.block_lt_of_cell? w _ HC.out.2.2.1)]; exact HC.out.2.2.1) (HC.out.2.2.2.below hbr) hlA).mono ?_
   rintro e w3 ⟨rfl, hb3⟩
   have hbr3 := hbr.trans (hb3.mono hbr.size)
   clear hbr hb3
   cases hx : (twiG i sq A ⟨x.a, x.g, x.s, x.m, x.z⟩)
   ·rw [hx] at HS
    clear hx
    go_wp2_with fail
    exact ⟨⟨q + 1, by omega, by simp, HS, hbr3⟩, by simp [intOf]; omega⟩
   ·have HX := zA hx
    clear hx
    go_wp2_with fail
    go_ret
    refine ⟨⟨q, rfl, ?_⟩, hbr3⟩
    have : L.any (twiG i sq A) = true := List.any_eq_true.2 ⟨x, List.mem_of_getElem? HP.out, HX.out⟩
    simp only [this]
    simp
  ·go_wp2_with fail
   go_ret
   refine ⟨⟨-1, rfl, ?_⟩, hbr⟩
   have h1 := hF.out
   rw [List.take_of_length_le (by omega)] at h1
   rw [h1]
   rfl
theorem containsG_any (i sq : Int) (oa : Option Addr) (A : List TP) (ca G : Nat) (o : Option Addr) (cap : Nat) (L : List TP) (w : World) (hL : zI w o L) (hlen : L.length ≤ 9223372036854775807) (h0 : w.cell? ⟨G, 0, none⟩ = some (.int .i64 i)) (h2 : w.cell? ⟨G, 2, none⟩ = some (.int .i64 sq)) (h3 : w.cell? ⟨G, 3, none⟩ = some (.slice oa A.length ca)) (hA : zI w oa A) (hlA : A.length ≤ 9223372036854775807) :
  Calls Tryz.prog 132 #[.slice o L.length cap, .func (.func 133) #[] #[.pointer (some ⟨G, 0, none⟩)]] w fun e w' => e = .returned (.bool (L.any (twiG i sq A))) ∧ Below w.heap.size w w' := by
 have HI := zA (indexG_any i sq oa A ca G o cap L w hL hlen h0 h2 h3 hA hlA)
 clear hL h0 h2 h3 hA
 go_enter Tryz.func132, Tryz.ntmps132
 go_wp2_with fail
 refine HI.out.mono ?_
 rintro e w' ⟨⟨n, rfl, hn⟩, hb⟩
 have HN := zA hn
 clear hn
 go_wp2_with fail
 go_ret
 exact ⟨by rw [← HN.out]; rfl, hb⟩
structure Gt8 (w : World) (b : Addr) (g : GT) : Prop where
 c0 : w.cell? b = some (.int .i64 g.i)
 c1 : w.cell? ⟨b.block, b.off + 1, none⟩ = some (.int .i64 g.z)
 c2 : w.cell? ⟨b.block, b.off + 2, none⟩ = some (.int .i64 g.s)
 c3 : w.cell? ⟨b.block, b.off + 3, none⟩ = some (.slice g.oa g.A.length g.ca)
 c4 : w.cell? ⟨b.block, b.off + 4, none⟩ = some (.int .i64 g.v)
 c5 : w.cell? ⟨b.block, b.off + 5, none⟩ = some (.slice g.od g.D.length g.cd)
 c6 : w.cell? ⟨b.block, b.off + 6, none⟩ = some (.int .i64 g.l)
 c7 : w.cell? ⟨b.block, b.off + 7, none⟩ = some (.int .i64 g.u)
theorem Gt8.lt {w : World} {b : Addr} {g : GT} (h : Gt8 w b g) : b.block < w.heap.size := World.block_lt_of_cell? w b h.c0
theorem Gt8.below {w w' : World} {b : Addr} {g : GT} {B : Nat} (h : Gt8 w b g) (hb : Below B w w') (hlt : b.block < B) : Gt8 w' b g :=
  ⟨(hb.cell hlt).trans h.c0, (hb.cell (p := ⟨b.block, b.off + 1, none⟩) hlt).trans h.c1, (hb.cell (p := ⟨b.block, b.off + 2, none⟩) hlt).trans h.c2, (hb.cell (p := ⟨b.block, b.off + 3, none⟩) hlt).trans h.c3,
   (hb.cell (p := ⟨b.block, b.off + 4, none⟩) hlt).trans h.c4, (hb.cell (p := ⟨b.block, b.off + 5, none⟩) hlt).trans h.c5, (hb.cell (p := ⟨b.block, b.off + 6, none⟩) hlt).trans h.c6, (hb.cell (p := ⟨b.block, b.off + 7, none⟩) hlt).trans h.c7⟩
def xA (w : World) (o : Option Addr) (L : List GT) : Prop := ∀ i g, L[i]? = some g → ∃ b, o = some b ∧ Gt8 w (b.add (i * 8)) g ∧ zR w (.slice g.oa g.A.length g.ca) g.A ∧ zP w (.slice g.od g.D.length g.cd) g.D
theorem xA.below {w w' : World} {o : Option Addr} {L : List GT} (h : xA w o L) (hb : Below w.heap.size w w') : xA w' o L :=
 fun i g hi => have ⟨b, e, h8, h1, h2⟩ := h i g hi; ⟨b, e, h8.below hb h8.lt, h1.below hb, h2.below hb⟩
theorem led_any (o1 o2 o3 : Option Addr) (n1 c1 n2 c2 n3 c3 : Nat) (v : Int) (od : Option Addr) (nd cd : Nat) (og : Option Addr) (ng cg : Nat) (ov : Option Addr) (cv : Nat) (W : List VW) (w : World) (hW : zZ w ov W) (hlen : W.length ≤ 9223372036854775807) :
  Calls Tryz.prog 109 #[stV o1 o2 o3 n1 c1 n2 c2 n3 c3 v od nd cd og ng cg ov W.length cv] w fun e w' => e = .returned (.bool (jE W)) ∧ Below w.heap.size w w' := by
 have HG := zA ((zL.nil w).more (.cells #[.slice o1 n1 c1, .slice o2 n2 c2, .slice o3 n3 c3, .int .i64 v, .slice od nd cd, .slice og ng cg, .slice ov W.length cv] 92) (by simp))
 have HN := zA (now_any ov cv W _ (hW.below HG.out.2.2) hlen)
 clear hW
 go_enter Tryz.func109, Tryz.ntmps109
 go_wp2_with fail
 refine HN.out.mono ?_
 rintro e w1 ⟨rfl, hb⟩
 have HG1 := zA (HG.out.on hb)
 clear hb HG HN
 go_wp2_with fail
 go_ret
 exact ⟨rfl, HG1.out.2.2⟩
theorem twiceK_any (o1 o2 o3 : Option Addr) (n1 c1 c2 n3 c3 : Nat) (dv : Int) (odd : Option Addr) (nd cdd : Nat) (og : Option Addr) (ng cg : Nat) (ov : Option Addr) (nv cv : Nat) (P : List TP) (i z s : Int) (oa : Option Addr) (A : List TP) (ca : Nat) (v : Int) (od : Option Addr) (ndd cd : Nat) (l u : Int) (w : World)
  (hP : zI w o2 P) (hlP : P.length ≤ 9223372036854775807) (hA : zI w oa A) (hlA : A.length ≤ 9223372036854775807) :
  Calls Tryz.prog 101 #[stV o1 o2 o3 n1 c1 P.length c2 n3 c3 dv odd nd cdd og ng cg ov nv cv, gtV i z s oa A.length ca v od ndd cd l u] w fun e w' => e = .returned (.bool (P.any (twiG i s A))) ∧ Below w.heap.size w w' := by
 have HG := zA (((zL.nil w).more (.cells #[.slice o1 n1 c1, .slice o2 P.length c2, .slice o3 n3 c3, .int .i64 dv, .slice odd nd cdd, .slice og ng cg, .slice ov nv cv] 92) (by simp)).more (.cells #[.int .i64 i, .int .i64 z, .int .i64 s, .slice oa A.length ca, .int .i64 v, .slice od ndd cd, .int .i64 l, .int .i64 u] 58) (by simp))
 have HC := zA (containsG_any i s oa A ca (w.heap.size + 1) o2 c2 P _ (hP.below HG.out.2.2) hlP (HG.out.cell 1 0 (w.heap.size + 1) _ _ _ rfl rfl rfl) (HG.out.cell 1 2 (w.heap.size + 1) _ _ _ rfl rfl rfl) (HG.out.cell 1 3 (w.heap.size + 1) _ _ _ rfl rfl rfl) (hA.below HG.out.2.2) hlA)
 clear hP hA
 go_enter Tryz.func101, Tryz.ntmps101
 go_wp2_with fail
 refine HC.out.mono ?_
 rintro e w1 ⟨rfl, hb⟩
 have HG1 := zA (HG.out.on hb)
 clear hb HG HC
 go_wp2_with fail
 go_ret
 exact ⟨rfl, HG1.out.2.2⟩
def jY (dv : Int) (P : List TP) (n : Nat) (g : GT) : Int :=
 if xH g.i g.z g.s g.A g.v g.D g.l g.u = 0 then (if g.i = (n : Int) ∧ ¬ dv < g.v then (if P.any (twiG g.i g.s g.A) = true then 6 else 0) else 4) else xH g.i g.z g.s g.A g.v g.D g.l g.u
def gatesF (dv : Int) (P : List TP) : Nat → List GT → Int
 | _, [] => 0
 | n, g :: L => if jY dv P n g = 0 then gatesF dv P (n + 1) L else jY dv P n g
def jB (dv : Int) (P : List TP) (G : List GT) : Int := if G.length = 3 then gatesF dv P 0 G else 1
theorem gatesF_at (dv : Int) (P : List TP) : ∀ (G : List GT) (n q : Nat) (g : GT), (∀ i x, i < q → G[i]? = some x → jY dv P (n + i) x = 0) → G[q]? = some g → jY dv P (n + q) g ≠ 0 → gatesF dv P n G = jY dv P (n + q) g
 | [], n, q, g, _, h, _ => by simp at h
 | x :: L, n, 0, g, _, h, he => by
  simp at h
  subst h
  simp only [gatesF, Nat.add_zero] at he ⊢
  rw [if_neg he]
 | x :: L, n, q + 1, g, h0, h, he => by
  have hx := h0 0 x (by omega) rfl
  simp only [Nat.add_zero] at hx
  simp only [gatesF]
  rw [if_pos hx, gatesF_at dv P L (n + 1) q g (fun i y hi hy => by have := h0 (i + 1) y (by omega) (by simpa using hy); rwa [show n + 1 + i = n + (i + 1) by omega]) (by simpa using h) (by rwa [show n + 1 + q = n + (q + 1) by omega])]
  rw [show n + 1 + q = n + (q + 1) by omega]
theorem gatesF_zero (dv : Int) (P : List TP) : ∀ (G : List GT) (n : Nat), (∀ i x, G[i]? = some x → jY dv P (n + i) x = 0) → gatesF dv P n G = 0
 | [], n, _ => rfl
 | x :: L, n, h => by
  have hx := h 0 x rfl
  simp only [Nat.add_zero] at hx
  simp only [gatesF]
  rw [if_pos hx, gatesF_zero dv P L (n + 1) (fun i y hy => by have := h (i + 1) y (by simpa using hy); rwa [show n + 1 + i = n + (i + 1) by omega])]
theorem zR.ats {w : World} {o : Option Addr} {c : Nat} {L : List TP} (h : zR w (.slice o L.length c) L) : zI w o L := by
 obtain ⟨o', c', e, h1, -⟩ := h
 simp only [Value.slice.injEq, true_and] at e
 obtain ⟨rfl, -⟩ := e
 exact h1
theorem zP.ats {w : World} {o : Option Addr} {c : Nat} {L : List Int} (h : zP w (.slice o L.length c) L) : zH w o L := by
 obtain ⟨o', c', e, h1, -⟩ := h
 simp only [Value.slice.injEq, true_and] at e
 obtain ⟨rfl, -⟩ := e
 exact h1
def GatesOk (G : List GT) : Prop := ∀ g ∈ G, g.A.length ≤ 9223372036854775807 ∧ g.D.length ≤ 9223372036854775807
theorem checkGates_any (o1 o2 o3 : Option Addr) (n1 c1 c2 n3 c3 : Nat) (dv : Int) (odd : Option Addr) (nd cdd : Nat) (og : Option Addr) (cg : Nat) (ov : Option Addr) (nv cv : Nat) (P : List TP) (G : List GT) (w : World) (hP : zI w o2 P) (hlP : P.length ≤ 9223372036854775807) (hG : xA w og G) (hok : GatesOk G) :
  Calls Tryz.prog 53 #[stV o1 o2 o3 n1 c1 P.length c2 n3 c3 dv odd nd cdd og G.length cg ov nv cv] w fun e w' => e = .returned (.int .i64 (jB dv P G)) ∧ Below w.heap.size w w' := by
 have HK := zA ((zL.nil w).more (.cells #[.slice o1 n1 c1, .slice o2 P.length c2, .slice o3 n3 c3, .int .i64 dv, .slice odd nd cdd, .slice og G.length cg, .slice ov nv cv] 92) (by simp))
 have HG := zA hG
 have HP := zA hP
 have HOk := zA hok
 clear hG hP hok
 obtain ⟨k0, k1, k2, k3, k4, k5, k6⟩ := HK.out.c7 0 w.heap.size rfl rfl rfl rfl rfl rfl rfl rfl rfl
 by_cases h3 : G.length = 3
 ·have HE0 : Hid (jB dv P G = gatesF dv P 0 G) := zA (if_pos h3)
  have h3' : ((G.length : Int) != 3) = false := by rw [h3]; rfl
  have h3a : G.length ≤ 3 := by omega
  have h3b : 3 ≤ G.length := by omega
  clear h3
  go_enter Tryz.func53, Tryz.ntmps53
  go_wp2_with fail
  go_loopw [15] (fun j wr => ∃ (q : Nat), q ≤ G.length ∧ j = .int .i64 q ∧ Hid (∀ i x, i < q → G[i]? = some x → jY dv P (0 + i) x = 0) ∧ Hid (zL w wr [.cells #[.slice o1 n1 c1, .slice o2 P.length c2, .slice o3 n3 c3, .int .i64 dv, .slice odd nd cdd, .slice og G.length cg, .slice ov nv cv] 92])) (fun j _ => G.length - (intOf j).toNat)
  case atStart => exact ⟨0, Nat.zero_le _, rfl, zA (fun i x h => by omega), HK⟩
  case round =>
   obtain ⟨q, hq, rfl, HZ, HKr⟩ := hrel
   clear k0 k1 k2 k3 k4 k5 k6
   by_cases hgo : q < G.length
   ·obtain ⟨g, hg⟩ : ∃ g, G[q]? = some g := ⟨G[q], by simp [hgo]⟩
    obtain ⟨A, rfl, h8, hT, hI⟩ := (HG.out.below HKr.out.2.2) q g hg
    obtain ⟨c0, c1', c2', c3', c4', c5', c6', c7'⟩ := h8
    obtain ⟨hokA, hokD⟩ := HOk.out g (List.mem_of_getElem? hg)
    have HGt := zA (And.intro hg (And.intro hT hI))
    have hA : (A.add (q * 8)).block < wr.heap.size := World.block_lt_of_cell? wr (A.add (q * 8)) c0
    clear hg hT hI
    have HB := zA ((zL.nil wr).more (.cells #[.int .i64 g.i, .int .i64 g.z, .int .i64 g.s, .slice g.oa g.A.length g.ca, .int .i64 g.v, .slice g.od g.D.length g.cd, .int .i64 g.l, .int .i64 g.u] 58) (by simp))
    go_wp2_with fail
    refine (gateCheck_any g.i g.z g.s g.oa g.A g.ca g.v g.od g.D g.cd g.l g.u _ (HGt.out.2.1.below HB.out.2.2).ats (HGt.out.2.2.below HB.out.2.2).ats hokD).mono ?_
    rintro e w1 ⟨rfl, hb⟩
    have HB1 := zA (HB.out.on hb)
    have HK1 := zA (HKr.out.on HB1.out.2.2)
    clear hb HB HKr c0 c1' c2' c3' c4' c5' c6' c7' hA
    obtain ⟨b0, b1, b2, b3, b4, b5, b6, b7⟩ := HB1.out.c8 0 wr.heap.size rfl rfl rfl rfl rfl rfl rfl rfl rfl rfl
    obtain ⟨k0, k1, k2, k3, k4, k5, k6⟩ := HK1.out.c7 0 w.heap.size rfl rfl rfl rfl rfl rfl rfl rfl rfl
    have HAt := zA (fun h => (gatesF_at dv P G 0 q g HZ.out HGt.out.1 h))
    have hE : jY dv P (0 + q) g = if xH g.i g.z g.s g.A g.v g.D g.l g.u = 0 then (if g.i = (q : Int) ∧ ¬ dv < g.v then (if P.any (twiG g.i g.s g.A) = true then 6 else 0) else 4) else xH g.i g.z g.s g.A g.v g.D g.l g.u := by rw [jY, Nat.zero_add]
    rcases hC : (xH g.i g.z g.s g.A g.v g.D g.l g.u != 0) with _ | _
    ·have hC0 : xH g.i g.z g.s g.A g.v g.D g.l g.u = 0 := by simpa using hC
     rw [if_pos hC0] at hE
     rw [hC0]
     clear hC hC0
     by_cases hs1 : g.i = (q : Int)
     ·by_cases hs2 : dv < g.v
      ·rw [if_neg (fun h => h.2 hs2)] at hE
       have HE : Hid (jB dv P G = 4) := zA (by rw [HE0.out, HAt.out (by rw [hE]; decide), hE])
       have hd1 : (g.i != (q : Int)) = false := by simpa using hs1
       clear hE HAt HZ hs1
       go_wp2_with fail
       go_ret
       exact ⟨by rw [HE.out]; rfl, HK1.out.2.2⟩
      ·rw [if_pos ⟨hs1, hs2⟩] at hE
       have hd1 : (g.i != (q : Int)) = false := by simpa using hs1
       clear hs1
       have HT := zA (twiceK_any o1 o2 o3 n1 c1 c2 n3 c3 dv odd nd cdd (some A) G.length cg ov nv cv P g.i g.z g.s g.oa g.A g.ca g.v g.od g.D.length g.cd g.l g.u w1 (HP.out.below HK1.out.2.2) hlP (HGt.out.2.1.below HB1.out.2.2).ats hokA)
       generalize P.any (twiG g.i g.s g.A) = R at *
       have HE' := zA hE
       clear hE
       go_wp2_with fail
       refine HT.out.mono ?_
       rintro e w2 ⟨rfl, hb⟩
       have HK2 := zA (HK1.out.on hb)
       clear hb HT k0 k1 k2 k3 k4 k5 k6 b0 b1 b2 b3 b4 b5 b6 b7 HB1 HK1
       cases R
       ·have HZ2 : Hid (∀ i x, i < q + 1 → G[i]? = some x → jY dv P (0 + i) x = 0) := zA (fun i x hi hx => by
         by_cases h : i = q
         ·subst h
          have h1 := HGt.out.1
          rw [h1] at hx
          cases hx
          have := HE'.out
          simpa using this
         ·exact HZ.out i x (by omega) hx)
        go_wp2_with fail
        exact ⟨⟨q + 1, by omega, by simp, HZ2, HK2⟩, by simp [intOf]; omega⟩
       ·have HE : Hid (jB dv P G = 6) := zA (by
         have h6 : jY dv P (0 + q) g = 6 := by have := HE'.out; simpa using this
         rw [HE0.out, HAt.out (by rw [h6]; decide), h6])
        clear HAt HZ HE'
        go_wp2_with fail
        go_ret
        exact ⟨by rw [HE.out]; rfl, HK2.out.2.2⟩
     ·rw [if_neg (fun h => hs1 h.1)] at hE
      have HE : Hid (jB dv P G = 4) := zA (by rw [HE0.out, HAt.out (by rw [hE]; decide), hE])
      have hd1 : (g.i != (q : Int)) = true := by simpa using hs1
      clear hE HAt HZ hs1
      go_wp2_with fail
      go_ret
      exact ⟨by rw [HE.out]; rfl, HK1.out.2.2⟩
    ·have hCn : xH g.i g.z g.s g.A g.v g.D g.l g.u ≠ 0 := by simpa using hC
     rw [if_neg hCn] at hE
     have HE : Hid (jB dv P G = xH g.i g.z g.s g.A g.v g.D g.l g.u) := zA (by rw [HE0.out, HAt.out (by rw [hE]; exact hCn), hE])
     clear hE HAt HZ hCn
     generalize xH g.i g.z g.s g.A g.v g.D g.l g.u = E at *
     go_wp2_with fail
     go_ret
     exact ⟨by rw [HE.out]; rfl, HK1.out.2.2⟩
   ·have HE : Hid (jB dv P G = 0) := zA (by
     rw [HE0.out]
     exact gatesF_zero dv P G 0 (fun i x hx => HZ.out i x (by have := (List.getElem?_eq_some_iff.1 hx).1; omega) hx))
    clear HZ
    go_wp2_with fail
    go_ret
    exact ⟨by rw [HE.out]; rfl, HKr.out.2.2⟩
 ·have hE : jB dv P G = 1 := if_neg h3
  rw [hE]
  have h3' : ((G.length : Int) != 3) = true := by simp; omega
  go_enter Tryz.func53, Tryz.ntmps53
  go_wp2_with fail
  go_ret
  exact ⟨rfl, HK.out.2.2⟩
theorem hasT_pos {T : List TK} {id : Int} (hr : jK T) (h : qF T id = true) : ∃ x, T[qA T id]? = some x ∧ x.i = id ∧ qM T id = qA T id := by
 rw [qF, List.any_eq_true] at h
 obtain ⟨x, hx, hid⟩ := h
 have hid : x.i = id := by simpa using hid
 obtain ⟨n, hn⟩ := List.mem_iff_getElem?.1 hx
 have hp : qA T id = n := posT_of (Nat.le_of_lt (List.getElem?_eq_some_iff.1 hn).1) (fun q y hy hq => by have := hr q n y x hy hn hq; omega) (fun q y hy hq => by
  rcases Nat.lt_or_ge n q with h | h
  ·have := hr n q x y hn hy h; omega
  ·obtain rfl : q = n := by omega
   rw [hn] at hy; cases hy; omega)
 refine ⟨x, by rw [hp]; exact hn, hid, ?_⟩
 rw [hp]
 exact idxT_some hn hid (fun j hj y hy => by have := hr j n y x hy hn hj; omega)
theorem hasT_idx {T : List TK} {id : Int} : (qM T id < 0) ↔ qF T id = false := by
 constructor
 ·intro h
  rw [qF, List.any_eq_false]
  intro x hx
  unfold qM at h
  split at h
  ·omega
  ·rename_i hn
   rw [List.findIdx?_eq_none_iff] at hn
   simpa using hn x hx
 ·intro h
  rw [qF, List.any_eq_false] at h
  rw [idxT_none (fun j p hj => by simpa using h p (List.mem_of_getElem? hj))]
  decide
theorem many_rides (X : List (TP × Int)) (id : Int) : many X id = (((yR X id).length : Int), jU (yR X id)) := by
 have key : ∀ n, many (X.take n) id = (((yR (X.take n) id).length : Int), jU (yR (X.take n) id)) := by
  intro n
  induction n with
  | zero => rfl
  | succ n ih =>
   rw [List.take_add_one]
   cases hx : X[n]? with
   | none => simpa using ih
   | some x =>
    rw [Option.toList_some, many_snoc, ridesL_snoc, ih]
    by_cases h : (x.1.a == id && x.2 == 1) = true
    ·have h' : x.1.a = id ∧ x.2 = 1 := by simpa using h
     rw [if_pos h', if_pos h]
     simp [jU]
    ·have h' : ¬ (x.1.a = id ∧ x.2 = 1) := by simpa using h
     rw [if_neg h', if_neg h]
 have := key X.length
 rwa [List.take_length] at this
theorem ridesL_mem {X : List (TP × Int)} {id : Int} {x : TP} (h : x ∈ yR X id) : x.a = id ∧ ∃ v, (x, v) ∈ X := by
 simp only [yR, List.mem_map, List.mem_filter] at h
 obtain ⟨y, ⟨hy, hc⟩, rfl⟩ := h
 simp at hc
 exact ⟨hc.1, y.2, hy⟩
theorem ridesL_len (X : List (TP × Int)) (id : Int) : (yR X id).length ≤ X.length := by
 rw [yR, List.length_map]
 exact List.length_filter_le _ _
def judB (T : List TK) (X : List (TP × Int)) (p : TP) : Int × Int :=
 judgeV (T.getD (qA T p.a) tk0).i (T.getD (qA T p.a) tk0).k (T.getD (qA T p.a) tk0).f (T.getD (qA T p.a) tk0).t (T.getD (qA T p.a) tk0).z (T.getD (qA T p.a) tk0).r (yR X p.a).length p (yR X p.a)
theorem firstE_of (l : List Int) (h : ∀ x ∈ l, x = 0) : zG l = 0 := by
 induction l with
 | nil => rfl
 | cons e l ih =>
  simp only [zG]
  rw [if_pos (h e (by simp))]
  exact ih fun x hx => h x (by simp [hx])
theorem judB_verd {T : List TK} {P : List TP} {V : List Int} {i : Nat} {p : TP} (hr : jK T) (hT : ∀ x ∈ T, jV x = 0) (hP : ∀ x ∈ P.take i, yK x = 0) (hi : i ≤ 60) (h1 : yK p = 0) (h2 : qF T p.a = true) :
  judB T ((P.zip V).take i) p = verd T P V i p := by
 obtain ⟨x, hx, hid, hidx⟩ := hasT_pos hr h2
 have hg : T.getD (qA T p.a) tk0 = x := by simp [List.getD, hx]
 have hE : errJ x.i x.k x.f x.t x.z x.r ((yR ((P.zip V).take i) p.a).length : Int) p (yR ((P.zip V).take i) p.a) = 0 := by
  have hm : ∀ y ∈ yR ((P.zip V).take i) p.a, yK y = 0 := by
   intro y hy
   obtain ⟨_, v, hv⟩ := ridesL_mem hy
   refine hP y ?_
   obtain ⟨j, hj⟩ := List.mem_iff_getElem?.1 hv
   rw [List.getElem?_take] at hj
   split at hj
   ·rename_i hji
    rw [List.getElem?_zip_eq_some] at hj
    exact List.mem_iff_getElem?.2 ⟨j, by rw [List.getElem?_take, if_pos hji]; exact hj.1⟩
   ·cases hj
  rw [errJ_end _ _ _ _ _ _ _ _ _ (hT x (List.mem_of_getElem? hx)) h1 ?_ (firstE_of _ ?_), if_neg]
  ·rw [hid]
   simp only [bne_self_eq_false, Bool.false_or, List.any_eq_true, not_exists, not_and]
   intro y hy
   simp [(ridesL_mem hy).1]
  ·rw [yO]
   have := ridesL_len ((P.zip V).take i) p.a
   rw [List.length_take] at this
   omega
  ·intro y hy
   obtain ⟨z, hz, rfl⟩ := List.mem_map.1 hy
   exact hm z hz
 unfold judB verd
 rw [hg, hidx, many_rides, show ((qA T p.a : Int)).toNat = qA T p.a from rfl, hg, judgeV, if_neg (by simpa using hE)]
theorem bookJudge_any (T : List TK) (P : List TP) (V : List Int) (o1 o2 o3 : Option Addr) (c1 c2 c3 : Nat) (a g s m z : Int) (w : World) (hT : zV w o1 T) (hP : zI w o2 P) (hV : zH w o3 V) (hlen : T.length ≤ 12) (hlen2 : P.length ≤ 60) (hlv : V.length = P.length)
  (hr : jK T) (hh : qF T a = true) :
  Calls Tryz.prog 159 #[lg o1 o2 o3 T.length c1 P.length c2 V.length c3, tp a g s m z] w fun e w' => e = .returned (.tuple #[.int .i64 (judB T (P.zip V) ⟨a, g, s, m, z⟩).1, .int .i64 (judB T (P.zip V) ⟨a, g, s, m, z⟩).2]) ∧ Below w.heap.size w w' := by
 obtain ⟨x, hx, -, -⟩ := hasT_pos hr hh
 have HT := zA hT
 have HPl := zA (fun W (h : zV W o1 T) => place_any T a o1 o2 o3 c1 P.length c2 V.length c3 W h hlen hr)
 have HRi := zA (fun W (h : zI W o2 P) (h' : zH W o3 V) => rides_any P V a o1 o2 o3 T.length c1 c2 c3 W h h' hlen2 hlv)
 have HP := zA hP
 have HV := zA hV
 have HRl := zA (show (yR (P.zip V) a).length ≤ 60 by have := ridesL_len (P.zip V) a; rw [List.length_zip] at this; omega)
 have hpos : qA T a < T.length := (List.getElem?_eq_some_iff.1 hx).1
 have HX := zA hx
 have HJ : Hid (judB T (P.zip V) ⟨a, g, s, m, z⟩ = judgeV x.i x.k x.f x.t x.z x.r (yR (P.zip V) a).length ⟨a, g, s, m, z⟩ (yR (P.zip V) a)) := by
  show _ = _
  have hg : T.getD (qA T a) tk0 = x := by simp [List.getD, hx]
  unfold judB
  simp only [hg]
 clear hT hP hV hr hh hx hlv
 rw [HJ.out]
 clear HJ
 generalize qF T a = hb0 at HPl
 generalize qA T a = n at *
 generalize yR (P.zip V) a = R at *
 go_enter Tryz.func159, Tryz.ntmps159
 go_wp2_with fail
 refine (HPl.out _ (HT.out.below ?_)).mono ?_
 ·repeat (first | with_reducible exact Below.refl _ _ | with_reducible refine Below.alloc ?_ (by simp; try omega) _ | with_reducible refine Below.setCell ?_ (by simp; try omega) _)
 rintro e w1 ⟨rfl, hb1⟩
 have HB1 := zA (boxesB_of _ _ _ _ _ _ _ _ _ _ _ _ _ _ _ _ _ _ hb1)
 clear hb1
 obtain ⟨⟨x0, x1, x2⟩, ⟨y0, y1, y2, y3, y4⟩, -, -⟩ := HB1.out
 simp only [Nat.zero_add] at x0 x1 x2 y0 y1 y2 y3 y4
 go_wp2_with fail
 refine (HRi.out _ (HP.out.below HB1.out.2.2.2) (HV.out.below HB1.out.2.2.2)).mono ?_
 rintro e w2 ⟨⟨o, cap, rfl, hR⟩, hb2⟩
 have HR := zA hR
 have HB2 := zA (HB1.out.on hb2)
 clear hb2 HB1 x0 x1 x2 y0 y1 y2 y3 y4 hR
 go_wp2_with fail
 obtain ⟨⟨x0, x1, x2⟩, ⟨y0, y1, y2, y3, y4⟩, -, hB⟩ := HB2.out
 simp only [Nat.zero_add] at x0 x1 x2 y0 y1 y2 y3 y4
 obtain ⟨A, rfl, z0, z1, z2, z3, z4, z5⟩ := (HT.out.below hB) n x HX.out
 have k0 := cell_regrown x0
 have k1 := cell_regrown x1
 have k2 := cell_regrown x2
 have l0 := cell_regrown y0
 have l1 := cell_regrown y1
 have l2 := cell_regrown y2
 have l3 := cell_regrown y3
 have l4 := cell_regrown y4
 have m0 := cell_regrown z0
 have m1 := cell_regrown z1
 have m2 := cell_regrown z2
 have m3 := cell_regrown z3
 have m4 := cell_regrown z4
 have m5 := cell_regrown z5
 have hRl := HRl.out
 have cJ : ∀ d os, Calls Tryz.prog 188 #[tk x.i x.k x.f x.t x.z x.r, .slice o R.length cap, .int .i64 (R.length : Int), tp a g s m z] (Sort.grow (redrawn w2 d) os) fun e w'' => e = .returned (.tuple #[.int .i64 (judgeV x.i x.k x.f x.t x.z x.r R.length ⟨a, g, s, m, z⟩ R).1, .int .i64 (judgeV x.i x.k x.f x.t x.z x.r R.length ⟨a, g, s, m, z⟩ R).2]) ∧ ∃ p : Regrown, w'' = Sort.grow (redrawn w2 p.d) p.os :=
  fun d os => Calls.regrown_of (judge_any x.i x.k x.f x.t x.z x.r R.length a g s m z o cap R _ (HR.out.below (below_regrown w2 d os)) (by omega))
 generalize hJ : judgeV x.i x.k x.f x.t x.z x.r R.length ⟨a, g, s, m, z⟩ R = J at cJ
 have HJ := zA hJ
 clear hJ
 clear x0 x1 x2 y0 y1 y2 y3 y4 z0 z1 z2 z3 z4 z5 HB2 HRi HPl HT HV HP HRl HX
 refine wp_region_quiet_below (by kernel_rfl) (by kernel_rfl) ?_
 repeat (quiet_step (exact cJ _ _))
 refine wpQuiet_nil ?_
 intro _ hw'
 obtain ⟨⟨dq, osq⟩, hw''⟩ := hw'
 subst hw''
 go_wp2
 go_ret2
 exact ⟨by rw [HJ.out]; rfl, hB.trans ((below_regrown w2 dq osq).mono hB.size)⟩
theorem ahead_any (o1 : Option Addr) (A A3 : Addr) (n1 c1 n2 c2 n3 c3 q : Nat) (w : World) (h2 : q ≤ c2) (h3 : q ≤ c3) (_hq : q ≤ 60) :
  Calls Tryz.prog 126 #[lg o1 (some A) (some A3) n1 c1 n2 c2 n3 c3, .int .i64 (q : Int)] w fun e w' => e = .returned (lg o1 (some A) (some A3) n1 c1 q c2 q c3) ∧ Below w.heap.size w w' := by
 go_enter Tryz.func126, Tryz.ntmps126
 go_wp2_with fail
 go_region
 go_wp2_with fail
 refine bodyPost_ret (v := lg o1 (some A) (some A3) n1 c1 q c2 q c3) (by simp [results, Tryz.results126, go_sem]) rfl ⟨rfl, ?_⟩
 exact (((Below.refl _ _).alloc (Nat.le_refl _) _).alloc (by simp) _).drew
theorem zI.take {w : World} {o : Option Addr} {L : List TP} (h : zI w o L) (n : Nat) : zI w o (L.take n) := fun i p hi => by
 rw [List.getElem?_take] at hi
 split at hi
 ·exact h i p hi
 ·cases hi
theorem zH.take {w : World} {o : Option Addr} {L : List Int} (h : zH w o L) (n : Nat) : zH w o (L.take n) := fun i p hi => by
 rw [List.getElem?_take] at hi
 split at hi
 ·exact h i p hi
 ·cases hi
def tapE (T : List TK) (P : List TP) (V : List Int) (p : TP) (said : Int) : Int :=
 zG [unf T P p, if wi said 1 2 = true then 0 else 7, if earlyB P p.m = true then 4 else 0, if (judB T (P.zip V) p).1 = said then 0 else 4]
theorem unf_has {T : List TK} {P : List TP} {p : TP} (h : unf T P p = 0) : yK p = 0 ∧ qF T p.a = true ∧ xL P p = false := by
 have h0 := jO _ h
 refine ⟨h0 _ (by simp), ?_, ?_⟩
 ·have := h0 (if qF T p.a = true then 0 else 5) (by simp)
  cases hc : qF T p.a
  ·simp [hc] at this
  ·rfl
 ·have := h0 (if xL P p = true then 6 else 0) (by simp)
  cases hc : xL P p
  ·rfl
  ·simp [hc] at this
theorem checkTapB_any (T : List TK) (P : List TP) (V : List Int) (o1 o2 o3 : Option Addr) (c1 c2 c3 : Nat) (a g s m z said : Int) (w : World) (hT : zV w o1 T) (hP : zI w o2 P) (hV : zH w o3 V) (hlen : T.length ≤ 12) (hlen2 : P.length ≤ 60) (hlv : V.length = P.length)
  (hr : jK T) :
  Calls Tryz.prog 127 #[lg o1 o2 o3 T.length c1 P.length c2 V.length c3, tp a g s m z, .int .i64 said] w fun e w' => e = .returned (.int .i64 (tapE T P V ⟨a, g, s, m, z⟩ said)) ∧ Below w.heap.size w w' := by
 have HT := zA hT
 have HP := zA hP
 have HV := zA hV
 have HU := zA (fun W (h : zV W o1 T) (h' : zI W o2 P) => unfit_any T P o1 o2 o3 c1 c2 V.length c3 a g s m z W h h' hlen hlen2 hr)
 have HE := zA (fun W (h' : zI W o2 P) => early_any P o1 o2 o3 T.length c1 c2 V.length c3 a g s m z W h' hlen2)
 have HJ := zA (fun W (hh : qF T a = true) (h : zV W o1 T) (h' : zI W o2 P) (h'' : zH W o3 V) => bookJudge_any T P V o1 o2 o3 c1 c2 c3 a g s m z W h h' h'' hlen hlen2 hlv hr hh)
 have hh : unf T P ⟨a, g, s, m, z⟩ = 0 → qF T a = true := fun h => (unf_has h).2.1
 clear hT hP hV hlv hr
 generalize hX : tapE T P V ⟨a, g, s, m, z⟩ said = X
 unfold tapE at hX
 generalize unf T P ⟨a, g, s, m, z⟩ = U at *
 generalize judB T (P.zip V) ⟨a, g, s, m, z⟩ = J at *
 generalize qF T a = hs at *
 simp only [] at hX
 generalize earlyB P m = E at *
 have hc : ((U != 0) = true ∧ X = U) ∨ (U = 0 ∧ (said != 1) = true ∧ (said != 2) = true ∧ X = 7) ∨
   (U = 0 ∧ ((said != 1) = false ∨ ((said != 1) = true ∧ (said != 2) = false)) ∧ E = true ∧ X = 4) ∨
   (U = 0 ∧ ((said != 1) = false ∨ ((said != 1) = true ∧ (said != 2) = false)) ∧ E = false ∧ (J.1 != said) = true ∧ X = 4) ∨
   (U = 0 ∧ ((said != 1) = false ∨ ((said != 1) = true ∧ (said != 2) = false)) ∧ E = false ∧ (J.1 != said) = false ∧ X = 0) := by
  rw [← hX]
  by_cases h1 : U = 0
  ·by_cases h2 : said = 1 ∨ said = 2
   ·have hw : wi said 1 2 = true := by rw [yO]; omega
    cases E
    ·by_cases h3 : J.1 = said
     ·simp [zG, h1, hw, h3]; omega
     ·simp [zG, h1, hw, h3]; omega
    ·simp [zG, h1, hw]; omega
   ·have hw : wi said 1 2 = false := by
     cases hw : wi said 1 2
     ·rfl
     ·rw [yO] at hw; omega
    have h2' : said ≠ 1 ∧ said ≠ 2 := by omega
    simp [zG, h1, hw, h2'.1, h2'.2]
  ·simp [zG, h1]
 clear hX
 rcases hc with ⟨h1, rfl⟩ | ⟨rfl, h2, h3, rfl⟩ | ⟨rfl, h2, rfl, rfl⟩ | ⟨rfl, h2, rfl, h3, rfl⟩ | ⟨rfl, h2, rfl, h3, rfl⟩
 rotate_left 2
 all_goals try (rcases h2 with h2 | ⟨h2, h2'⟩)
 rotate_left 6
 all_goals
  go_enter Tryz.func127, Tryz.ntmps127
  go_wp2_with fail
  refine (HU.out _ (HT.out.below ?_) (HP.out.below ?_)).mono ?_
  ·repeat (first | with_reducible exact Below.refl _ _ | with_reducible refine Below.alloc ?_ (by simp; try omega) _ | with_reducible refine Below.setCell ?_ (by simp; try omega) _)
  ·repeat (first | with_reducible exact Below.refl _ _ | with_reducible refine Below.alloc ?_ (by simp; try omega) _ | with_reducible refine Below.setCell ?_ (by simp; try omega) _)
  rintro e w1 ⟨rfl, hb1⟩
  have HB1 := zA (boxesB_of _ _ _ _ _ _ _ _ _ _ _ _ _ _ _ _ _ _ hb1)
  clear hb1
  obtain ⟨⟨x0, x1, x2⟩, ⟨y0, y1, y2, y3, y4⟩, -, -⟩ := HB1.out
  simp only [Nat.zero_add] at x0 x1 x2 y0 y1 y2 y3 y4
  go_wp2_with fail
 ·go_ret
  exact ⟨rfl, HB1.out.2.2.2⟩
 ·go_ret
  exact ⟨rfl, HB1.out.2.2.2⟩
 all_goals
  refine (HE.out _ (HP.out.below HB1.out.2.2.2)).mono ?_
  rintro e w2 ⟨rfl, hb2⟩
  have HB2 := zA (HB1.out.on hb2)
  clear hb2 HB1 x0 x1 x2 y0 y1 y2 y3 y4
  obtain ⟨⟨x0, x1, x2⟩, ⟨y0, y1, y2, y3, y4⟩, -, -⟩ := HB2.out
  simp only [Nat.zero_add] at x0 x1 x2 y0 y1 y2 y3 y4
  go_wp2_with fail
 ·go_ret
  exact ⟨rfl, HB2.out.2.2.2⟩
 ·go_ret
  exact ⟨rfl, HB2.out.2.2.2⟩
 all_goals
  refine (HJ.out _ (hh trivial) (HT.out.below HB2.out.2.2.2) (HP.out.below HB2.out.2.2.2) (HV.out.below HB2.out.2.2.2)).mono ?_
  rintro e w3 ⟨rfl, hb3⟩
  have HB3 := zA (HB2.out.on hb3)
  clear hb3 HB2 x0 x1 x2 y0 y1 y2 y3 y4
  go_wp2_with fail
  go_ret
  exact ⟨rfl, HB3.out.2.2.2⟩
def qN (T : List TK) : Int := zG ((List.range T.length).map (errK T))
theorem ticksE_at {T : List TK} {q : Nat} (h : ∀ j, j < q → errK T j = 0) (hq : q < T.length) (hne : errK T q ≠ 0) : qN T = errK T q := by
 rw [qN, ← List.append_nil ((List.range T.length).map _)]
 exact firstE_at _ _ _ _ h hq hne
theorem ticksE_ok {T : List TK} (h : ∀ j, j < T.length → errK T j = 0) : qN T = 0 := by
 rw [qN, ← List.append_nil ((List.range T.length).map _), firstE_all _ _ _ h]; rfl
theorem ticksE_all {T : List TK} (h : qN T = 0) : ∀ j, j < T.length → errK T j = 0 := fun j hj => jO _ h _ (List.mem_map.2 ⟨j, List.mem_range.2 hj, rfl⟩)
theorem errK_parts {T : List TK} {q : Nat} {p : TK} (hp : T[q]? = some p) (h : errK T q = 0) : jV p = 0 ∧ ¬ (0 < q ∧ p.i ≤ (T.getD (q - 1) tk0).i) := by
 rcases errK_cases hp with ⟨h1, h2⟩ | ⟨h1, h2, h3, h4⟩ | ⟨h1, h2, h3⟩
 ·exact absurd (h2.symm.trans h) h1
 ·omega
 ·exact ⟨h1, h2⟩
theorem rising_of {T : List TK} (h : qN T = 0) : jK T := by
 have h0 := ticksE_all h
 have step : ∀ (n : Nat) (x y : TK), T[n]? = some x → T[n + 1]? = some y → x.i < y.i := by
  intro n x y hx hy
  have h1 := (errK_parts hy (h0 _ (List.getElem?_eq_some_iff.1 hy).1)).2
  rw [show T.getD (n + 1 - 1) tk0 = x by simp [List.getD, hx]] at h1
  omega
 intro p q x y hx hy hpq
 obtain ⟨d, rfl⟩ : ∃ d, q = p + 1 + d := ⟨q - (p + 1), by omega⟩
 clear hpq
 induction d generalizing y with
 | zero => exact step p x y hx hy
 | succ d ih =>
  obtain ⟨z, hz⟩ : ∃ z, T[p + 1 + d]? = some z := ⟨T[p + 1 + d]'(by have := (List.getElem?_eq_some_iff.1 hy).1; omega), by simp⟩
  have := ih z hz
  have := step (p + 1 + d) z y hz hy
  omega
theorem checked_of {T : List TK} (h : qN T = 0) : ∀ x ∈ T, jV x = 0 := by
 intro x hx
 obtain ⟨n, hn⟩ := List.mem_iff_getElem?.1 hx
 exact (errK_parts hn (ticksE_all h n (List.getElem?_eq_some_iff.1 hn).1)).1
def lastId (T : List TK) (q : Nat) : Int := if q = 0 then 0 else (T.getD (q - 1) tk0).i
theorem errK_ways {T : List TK} {q : Nat} {p : TK} (hp : T[q]? = some p) : ((jV p != 0) = true ∧ errK T q = jV p ∧ errK T q ≠ 0) ∨ (jV p = 0 ∧ p.i ≤ lastId T q ∧ errK T q = 4) ∨ (jV p = 0 ∧ ¬ p.i ≤ lastId T q ∧ errK T q = 0) := by
 rcases errK_cases hp with ⟨h1, h2⟩ | ⟨h1, h2, h3, h4⟩ | ⟨h1, h2, h3⟩
 ·exact Or.inl ⟨by simpa using h1, h2, by rw [h2]; exact h1⟩
 ·exact Or.inr (Or.inl ⟨h1, by rw [lastId, if_neg (by omega)]; exact h3, h4⟩)
 ·refine Or.inr (Or.inr ⟨h1, ?_, h3⟩)
  rw [lastId]
  split
  ·have := (chk_right h1).1; omega
  ·omega
theorem checkTickets_any (T : List TK) (o1 o2 o3 : Option Addr) (c1 n2 c2 n3 c3 : Nat) (w : World) (hT : zV w o1 T) (hlen : T.length ≤ 12) :
  Calls Tryz.prog 97 #[lg o1 o2 o3 T.length c1 n2 c2 n3 c3] w fun e w' => e = .returned (.int .i64 (qN T)) ∧ Below w.heap.size w w' := by
 have HT := zA hT
 clear hT
 have HA := zA (fun q (h1 : ∀ j, j < q → errK T j = 0) (h2 : q < T.length) (h3 : errK T q ≠ 0) => ticksE_at h1 h2 h3)
 have HO := zA (fun (h1 : ∀ j, j < T.length → errK T j = 0) => ticksE_ok h1)
 generalize qN T = R at *
 go_enter Tryz.func97, Tryz.ntmps97
 go_wp2_with fail
 go_loopw [3, 11] (fun l j wr => ∃ (q : Nat), q ≤ T.length ∧ j = .int .i64 q ∧ l = .int .i64 (lastId T q) ∧ Hid (∀ j, j < q → errK T j = 0) ∧ Below w.heap.size w wr) (fun _ j _ => T.length - (intOf j).toNat)
 case atStart => exact ⟨0, Nat.zero_le _, rfl, rfl, fun j hj => by omega, (Below.refl _ _).alloc (Nat.le_refl _) _⟩
 case round =>
  obtain ⟨q, hq, rfl, rfl, hF, hbr⟩ := hrel
  by_cases hgo : q < T.length
  ·obtain ⟨p, hp⟩ : ∃ p, T[q]? = some p := ⟨T[q], by simp [hgo]⟩
   have hsz := hbr.size
   have hw := errK_ways hp
   have HL : Hid (lastId T (q + 1) = p.i) := by
    show _ = _
    rw [lastId, if_neg (by omega), Nat.add_sub_cancel]
    simp [List.getD, hp]
   obtain ⟨A, rfl, e0, e1, e2, e3, e4, e5⟩ := (HT.out.below hbr) q p hp
   clear hp
   generalize lastId T q = l at *
   go_wp2_with fail
   refine (check_any _ _ _ _ _ _ _).mono ?_
   rintro e w3 ⟨rfl, hb3⟩
   have HB3 : Hid (Below w.heap.size w w3) := by
    refine zA (Below.trans ?_ (hb3.mono ?_))
    ·exact hbr.alloc hsz _
    ·simp; omega
   have hcell : w3.cell? ⟨wr.heap.size, 0, none⟩ = some (.int .i64 p.i) := by
    rw [hb3.cell (p := ⟨wr.heap.size, 0, none⟩) (by simp)]
    simp [go_sem]
   clear hb3 hbr e0 e1 e2 e3 e4 e5
   have hk : chk p.i p.k p.f p.t p.z p.r = jV p := rfl
   rw [hk]
   clear hk
   generalize jV p = X at *
   rcases hw with ⟨h1, h2, h3⟩ | ⟨rfl, h2, h3⟩ | ⟨rfl, h2, h3⟩
   ·have HR := zA ((HA.out q hF.out hgo h3).trans h2)
    clear h3 h2
    go_wp2_with fail
    go_ret
    exact ⟨by rw [HR.out]; rfl, HB3.out⟩
   ·have HR := zA ((HA.out q hF.out hgo (by omega)).trans h3)
    clear h3
    go_wp2_with fail
    go_ret
    exact ⟨by rw [HR.out]; rfl, HB3.out⟩
   ·have HN : Hid (∀ j, j < q + 1 → errK T j = 0) := fun j hj => by
     rcases Nat.lt_or_ge j q with h | h
     ·exact hF.out j h
     ·obtain rfl : j = q := by omega
      exact h3
    clear h3
    go_wp2_with fail
    exact ⟨⟨q + 1, by omega, by simp, by rw [HL.out], HN, HB3.out⟩, by simp [intOf]; omega⟩
  ·obtain rfl : q = T.length := by omega
   have HR := zA (HO.out hF.out)
   go_wp2_with fail
   go_ret
   exact ⟨by rw [HR.out]; rfl, hbr⟩
def tapsE (T : List TK) (P : List TP) (V : List Int) : Int := zG ((List.range P.length).map (errP T P V))
theorem tapsE_at {T : List TK} {P : List TP} {V : List Int} {q : Nat} (h : ∀ j, j < q → errP T P V j = 0) (hq : q < P.length) (hne : errP T P V q ≠ 0) : tapsE T P V = errP T P V q := by
 rw [tapsE, ← List.append_nil ((List.range P.length).map _)]
 exact firstE_at _ _ _ _ h hq hne
theorem tapsE_ok {T : List TK} {P : List TP} {V : List Int} (h : ∀ j, j < P.length → errP T P V j = 0) : tapsE T P V = 0 := by
 rw [tapsE, ← List.append_nil ((List.range P.length).map _), firstE_all _ _ _ h]; rfl
theorem errP_chk {T : List TK} {P : List TP} {V : List Int} {j : Nat} {p : TP} (hp : P[j]? = some p) (h : errP T P V j = 0) : yK p = 0 := by
 have := jO _ h (yK (P.getD j tp0)) (by simp)
 rwa [show P.getD j tp0 = p by simp [List.getD, hp]] at this
theorem zip_take (P : List TP) (V : List Int) (q : Nat) : (P.take q).zip (V.take q) = (P.zip V).take q := by
 show List.zipWith Prod.mk (P.take q) (V.take q) = (List.zipWith Prod.mk P V).take q
 rw [List.take_zipWith]
theorem early_at {P : List TP} {q : Nat} (m : Int) (hq : q ≤ P.length) : earlyB (P.take q) m = decide (0 < q ∧ m < (P.getD (q - 1) tp0).m) := by
 unfold earlyB
 rw [List.getLast?_eq_getElem?, List.length_take, Nat.min_eq_left hq]
 rcases q with _ | n
 ·simp
 ·obtain ⟨x, hx⟩ : ∃ x, P[n]? = some x := ⟨P[n]'(by omega), by simp⟩
  rw [Nat.add_sub_cancel, List.getElem?_take, if_pos (by omega), hx]
  simp [List.getD, hx]
theorem tapE_errP {T : List TK} {P : List TP} {V : List Int} {q : Nat} {p : TP} {v : Int} (hr : jK T) (hT : ∀ x ∈ T, jV x = 0) (hq : q ≤ 60) (hP : ∀ x ∈ P.take q, yK x = 0) (hp : P[q]? = some p) (hv : V[q]? = some v) :
  tapE T (P.take q) (V.take q) p v = errP T P V q := by
 have gp : P.getD q tp0 = p := by simp [List.getD, hp]
 have gv : V.getD q 0 = v := by simp [List.getD, hv]
 unfold tapE errP
 rw [gp, gv, early_at p.m (Nat.le_of_lt (List.getElem?_eq_some_iff.1 hp).1), zip_take]
 by_cases h1 : yK p = 0
 ·cases h2 : qF T p.a
  ·have hi := hasT_idx.2 h2
   simp [unf, zG, h1, h2, hi]
  ·have hi : ¬ qM T p.a < 0 := fun h => by rw [hasT_idx.1 h] at h2; cases h2
   rw [judB_verd hr hT hP hq h1 h2]
   cases h3 : xL (P.take q) p
   ·simp [unf, zG, h1, h2, hi, h3]
   ·simp [unf, zG, h1, h2, hi, h3]
 ·simp [unf, zG, h1]
theorem checkTaps_any (T : List TK) (P : List TP) (V : List Int) (o1 o2 o3 : Option Addr) (c1 c2 c3 : Nat) (w : World) (hT : zV w o1 T) (hP : zI w o2 P) (hV : zH w o3 V) (hlen : T.length ≤ 12) (hlen2 : P.length ≤ 60) (hlv : V.length = P.length)
  (hc2 : P.length ≤ c2) (hc3 : V.length ≤ c3) (hE : qN T = 0) :
  Calls Tryz.prog 98 #[lg o1 o2 o3 T.length c1 P.length c2 V.length c3] w fun e w' => e = .returned (.int .i64 (tapsE T P V)) ∧ Below w.heap.size w w' := by
 have hr := rising_of hE
 have hck := checked_of hE
 have HA := zA (fun q (h1 : ∀ j, j < q → errP T P V j = 0) (h2 : q < P.length) (h3 : errP T P V q ≠ 0) => tapsE_at h1 h2 h3)
 have HO := zA (fun (h1 : ∀ j, j < P.length → errP T P V j = 0) => tapsE_ok h1)
 have HQ := zA (fun q p v (h1 : ∀ j, j < q → errP T P V j = 0) (hp : P[q]? = some p) (hv : V[q]? = some v) => (tapE_errP hr hck (by have := (List.getElem?_eq_some_iff.1 hp).1; omega) (fun x hx => by
  obtain ⟨j, hj⟩ := List.mem_iff_getElem?.1 hx
  rw [List.getElem?_take] at hj
  split at hj
  ·exact errP_chk hj (h1 j (by assumption))
  ·cases hj) hp hv : tapE T (P.take q) (V.take q) p v = errP T P V q))
 have HK := zA (fun W q A A3 a g s m z said (hq : q < P.length) (h : zV W o1 T) (h' : zI W (some A) P) (h'' : zH W (some A3) V) =>
  (by
   have h := checkTapB_any T (P.take q) (V.take q) o1 (some A) (some A3) c1 c2 c3 a g s m z said W h (h'.take q) (h''.take q) hlen (by rw [List.length_take]; omega) (by rw [List.length_take, List.length_take]; omega) hr
   rw [List.length_take, List.length_take, Nat.min_eq_left (by omega), Nat.min_eq_left (by omega)] at h
   exact h : Calls Tryz.prog 127 #[lg o1 (some A) (some A3) T.length c1 q c2 q c3, tp a g s m z, .int .i64 said] W fun e w' => e = .returned (.int .i64 (tapE T (P.take q) (V.take q) ⟨a, g, s, m, z⟩ said)) ∧ Below W.heap.size W w'))
 have HT := zA hT
 have HP := zA hP
 have HV := zA hV
 have HLV := zA hlv
 have hvl : V.length ≤ 60 := by omega
 clear hT hP hV hr hck hE hlv
 generalize tapsE T P V = R at *
 go_enter Tryz.func98, Tryz.ntmps98
 go_wp2_with fail
 go_loopw [10] (fun j wr => ∃ (q : Nat), q ≤ P.length ∧ j = .int .i64 q ∧ Hid (∀ j, j < q → errP T P V j = 0) ∧ Below (w.heap.size + 1) (w.alloc (cL o1 o2 o3 T.length c1 P.length c2 V.length c3 143)) wr) (fun j _ => P.length - (intOf j).toNat)
 case atStart => exact ⟨0, Nat.zero_le _, rfl, fun j hj => by omega, Below.refl _ _⟩
 case round =>
  obtain ⟨q, hq, rfl, hF, hbr⟩ := hrel
  have d0 : wr.cell? ⟨w.heap.size, 0, none⟩ = some (.slice o1 T.length c1) := by rw [hbr.cell (p := ⟨w.heap.size, 0, none⟩) (show w.heap.size < w.heap.size + 1 by omega)]; simp [go_sem]
  have d1 : wr.cell? ⟨w.heap.size, 1, none⟩ = some (.slice o2 P.length c2) := by rw [hbr.cell (p := ⟨w.heap.size, 1, none⟩) (show w.heap.size < w.heap.size + 1 by omega)]; simp [go_sem]
  have d2 : wr.cell? ⟨w.heap.size, 2, none⟩ = some (.slice o3 V.length c3) := by rw [hbr.cell (p := ⟨w.heap.size, 2, none⟩) (show w.heap.size < w.heap.size + 1 by omega)]; simp [go_sem]
  have hsz : w.heap.size < wr.heap.size := World.block_lt_of_cell? wr ⟨w.heap.size, 0, none⟩ d0
  have HB := zA (show Below w.heap.size w wr from ((Below.refl _ _).alloc (Nat.le_refl _) _).trans (hbr.mono (by omega)))
  by_cases hgo : q < P.length
  ·obtain ⟨p, hp⟩ : ∃ p, P[q]? = some p := ⟨P[q], by simp [hgo]⟩
   obtain ⟨v, hv⟩ : ∃ v, V[q]? = some v := ⟨V[q]'(by have := HLV.out; omega), by simp⟩
   have HX := zA (HQ.out q p v hF.out hp hv)
   obtain ⟨A, rfl, e0, e1, e2, e3, e4⟩ := (HP.out.below HB.out) q p hp
   obtain ⟨A3, rfl, f0⟩ := (HV.out.below HB.out) q v hv
   have hA : (A.add (q * 5)).block < wr.heap.size := World.block_lt_of_cell? wr (A.add (q * 5)) e0
   have hvl2 : q < V.length := by have := HLV.out; omega
   clear hp hv
   go_wp2_with fail
   have HB3 := zA (hbr.alloc (show w.heap.size + 1 ≤ wr.heap.size by omega) (cP p.a p.g p.s p.m p.z 79))
   have HB4 := zA (HB.out.alloc (show w.heap.size ≤ wr.heap.size by omega) (cP p.a p.g p.s p.m p.z 79))
   have hbw : Below wr.heap.size wr (wr.alloc (cP p.a p.g p.s p.m p.z 79)) := (Below.refl _ _).alloc (Nat.le_refl _) _
   have x0 : (wr.alloc (cP p.a p.g p.s p.m p.z 79)).cell? ⟨w.heap.size, 0, none⟩ = some (.slice o1 T.length c1) := by rw [hbw.cell (p := ⟨w.heap.size, 0, none⟩) hsz]; exact d0
   have x1 : (wr.alloc (cP p.a p.g p.s p.m p.z 79)).cell? ⟨w.heap.size, 1, none⟩ = some (.slice (some A) P.length c2) := by rw [hbw.cell (p := ⟨w.heap.size, 1, none⟩) hsz]; exact d1
   have x2 : (wr.alloc (cP p.a p.g p.s p.m p.z 79)).cell? ⟨w.heap.size, 2, none⟩ = some (.slice (some A3) V.length c3) := by rw [hbw.cell (p := ⟨w.heap.size, 2, none⟩) hsz]; exact d2
   have g0 : (wr.alloc (cP p.a p.g p.s p.m p.z 79)).cell? (A3.add q) = some (.int .i64 v) := by rw [hbw.cell (World.block_lt_of_cell? wr (A3.add q) f0)]; exact f0
   obtain ⟨y0, y1, y2, y3, y4⟩ : jN (wr.alloc (cP p.a p.g p.s p.m p.z 79)) ⟨wr.heap.size, 0, none⟩ p := ⟨by simp [go_sem], by simp [go_sem], by simp [go_sem], by simp [go_sem], by simp [go_sem]⟩
   simp only [Nat.zero_add] at y0 y1 y2 y3 y4
   clear d0 d1 d2 e0 e1 e2 e3 e4 f0 hbw hbr
   generalize wr.alloc (cP p.a p.g p.s p.m p.z 79) = w2 at *
   have k0 := cell_regrown x0
   have k1 := cell_regrown x1
   have k2 := cell_regrown x2
   have l0 := cell_regrown y0
   have l1 := cell_regrown y1
   have l2 := cell_regrown y2
   have l3 := cell_regrown y3
   have l4 := cell_regrown y4
   have m0 := cell_regrown g0
   have cA : ∀ d os, Calls Tryz.prog 126 #[lg o1 (some A) (some A3) T.length c1 P.length c2 V.length c3, .int .i64 (q : Int)] (Sort.grow (redrawn w2 d) os) fun e w'' => e = .returned (lg o1 (some A) (some A3) T.length c1 q c2 q c3) ∧ ∃ p : Regrown, w'' = Sort.grow (redrawn w2 p.d) p.os :=
    fun d os => Calls.regrown_of (ahead_any o1 A A3 T.length c1 P.length c2 V.length c3 q _ (by omega) (by omega) (by omega))
   have cT : ∀ d os, Calls Tryz.prog 127 #[lg o1 (some A) (some A3) T.length c1 q c2 q c3, tp p.a p.g p.s p.m p.z, .int .i64 v] (Sort.grow (redrawn w2 d) os) fun e w'' => e = .returned (.int .i64 (tapE T (P.take q) (V.take q) p v)) ∧ ∃ p : Regrown, w'' = Sort.grow (redrawn w2 p.d) p.os :=
    fun d os => Calls.regrown_of (HK.out _ q A A3 p.a p.g p.s p.m p.z v hgo ((HT.out.below HB4.out).below (below_regrown w2 d os)) ((HP.out.below HB4.out).below (below_regrown w2 d os)) ((HV.out.below HB4.out).below (below_regrown w2 d os)))
   rw [HX.out] at cT
   clear HX x0 x1 x2 y0 y1 y2 y3 y4 g0
   have HA' := zA (HA.out q hF.out hgo)
   have HF' : Hid (errP T P V q = 0 → ∀ j, j < q + 1 → errP T P V j = 0) := fun h3 j hj => by
    rcases Nat.lt_or_ge j q with h | h
    ·exact hF.out j h
    ·obtain rfl : j = q := by omega
     exact h3
   generalize errP T P V q = X at *
   refine wp_region_quiet_below (by kernel_rfl) (by kernel_rfl) ?_
   repeat (quiet_step (first | exact cA _ _ | exact cT _ _))
   refine wpQuiet_nil ?_
   intro _ hw'
   obtain ⟨⟨dq, osq⟩, hw''⟩ := hw'
   subst hw''
   have HB5 := zA (HB3.out.trans ((below_regrown w2 dq osq).mono (by have := HB3.out.size; simp at this; omega)))
   have HB6 := zA (HB4.out.trans ((below_regrown w2 dq osq).mono HB4.out.size))
   clear k0 k1 k2 l0 l1 l2 l3 l4 m0 cA cT
   cases hX : (X != 0)
   ·go_wp2_with fail
    exact ⟨⟨q + 1, by omega, by simp, HF'.out (by simpa using hX), HB5.out⟩, by simp [intOf]; omega⟩
   ·have HR := zA (HA'.out (by simpa using hX))
    go_wp2_with fail
    go_ret
    exact ⟨by rw [HR.out]; rfl, HB6.out⟩
  ·obtain rfl : q = P.length := by omega
   have HR := zA (HO.out hF.out)
   go_wp2_with fail
   go_ret
   exact ⟨by rw [HR.out]; rfl, HB.out⟩
theorem chkL_split {T : List TK} {P : List TP} {V : List Int} (h : ¬ (12 < T.length ∨ 60 < P.length ∨ P.length ≠ V.length)) : (qN T ≠ 0 ∧ xC T P V = qN T) ∨ (qN T = 0 ∧ xC T P V = tapsE T P V) := by
 rw [xC, if_neg h]
 by_cases h1 : qN T = 0
 ·right
  exact ⟨h1, firstE_zero _ _ h1⟩
 ·left
  exact ⟨h1, firstE_stop _ _ h1⟩
theorem checkLed_any (T : List TK) (P : List TP) (V : List Int) (o1 o2 o3 : Option Addr) (c1 c2 c3 : Nat) (w : World) (hT : zV w o1 T) (hP : zI w o2 P) (hV : zH w o3 V) (hlT : T.length ≤ 9223372036854775807) (hlP : P.length ≤ 9223372036854775807) (_hlV : V.length ≤ 9223372036854775807)
  (hc2 : P.length ≤ c2) (hc3 : V.length ≤ c3) :
  Calls Tryz.prog 51 #[lg o1 o2 o3 T.length c1 P.length c2 V.length c3] w fun e w' => e = .returned (.int .i64 (xC T P V)) ∧ Below w.heap.size w w' := by
 by_cases hm : 12 < T.length ∨ 60 < P.length ∨ P.length ≠ V.length
 ·rw [chkL_many hm]
  have hcs : 12 < T.length ∨ (¬ 12 < T.length ∧ 60 < P.length) ∨ (¬ 12 < T.length ∧ ¬ 60 < P.length ∧ ((V.length : Int) != (P.length : Int)) = true) := by
   rcases hm with h | h | h
   ·exact Or.inl h
   ·by_cases h0 : 12 < T.length
    ·exact Or.inl h0
    ·exact Or.inr (Or.inl ⟨h0, h⟩)
   ·by_cases h0 : 12 < T.length
    ·exact Or.inl h0
    ·by_cases h1 : 60 < P.length
     ·exact Or.inr (Or.inl ⟨h0, h1⟩)
     ·refine Or.inr (Or.inr ⟨h0, h1, ?_⟩)
      simp
      omega
  clear hm hT hP hV hc2 hc3
  rcases hcs with h1 | ⟨h1, h2⟩ | ⟨h1, h2, h3⟩
  all_goals
   go_enter Tryz.func51, Tryz.ntmps51
   go_wp2_with fail
   go_ret
   exact ⟨rfl, (Below.refl _ _).alloc (Nat.le_refl _) _⟩
 ·have hsp := chkL_split hm
  have h1 : ¬ 12 < T.length := fun h => hm (Or.inl h)
  have h2 : ¬ 60 < P.length := fun h => hm (Or.inr (Or.inl h))
  have hlv : V.length = P.length := by omega
  have h3 : ((V.length : Int) != (P.length : Int)) = false := by simp [hlv]
  have HK := zA (fun W (h : zV W o1 T) => checkTickets_any T o1 o2 o3 c1 P.length c2 V.length c3 W h (by omega))
  have HS := zA (fun W hE (h : zV W o1 T) (h' : zI W o2 P) (h'' : zH W o3 V) => checkTaps_any T P V o1 o2 o3 c1 c2 c3 W h h' h'' (by omega) (by omega) hlv hc2 hc3 hE)
  have HT := zA hT
  have HP := zA hP
  have HV := zA hV
  clear hT hP hV hm hlv hc2 hc3
  generalize qN T = X at *
  generalize tapsE T P V = Y at *
  rcases hsp with ⟨hx, h5⟩ | ⟨rfl, h5⟩
  ·have hx' : (X != 0) = true := by simpa using hx
   rw [h5]
   clear h5 hx
   go_enter Tryz.func51, Tryz.ntmps51
   go_wp2_with fail
   refine (HK.out _ (HT.out.below ?_)).mono ?_
   ·repeat (first | with_reducible exact Below.refl _ _ | with_reducible refine Below.alloc ?_ (by simp; try omega) _ | with_reducible refine Below.setCell ?_ (by simp; try omega) _)
   rintro e w1 ⟨rfl, hb1⟩
   have HB1 : Hid (Below w.heap.size w w1) := by
    refine zA (Below.trans ?_ (hb1.mono ?_))
    ·repeat (first | with_reducible exact Below.refl _ _ | with_reducible refine Below.alloc ?_ (by simp; try omega) _ | with_reducible refine Below.setCell ?_ (by simp; try omega) _)
    ·simp; omega
   clear hb1
   go_wp2_with fail
   go_ret
   exact ⟨rfl, HB1.out⟩
  ·rw [h5]
   clear h5
   go_enter Tryz.func51, Tryz.ntmps51
   go_wp2_with fail
   refine (HK.out _ (HT.out.below ?_)).mono ?_
   ·repeat (first | with_reducible exact Below.refl _ _ | with_reducible refine Below.alloc ?_ (by simp; try omega) _ | with_reducible refine Below.setCell ?_ (by simp; try omega) _)
   rintro e w1 ⟨rfl, hb1⟩
   have HB1 : Hid (Below w.heap.size w w1) := by
    refine zA (Below.trans ?_ (hb1.mono ?_))
    ·repeat (first | with_reducible exact Below.refl _ _ | with_reducible refine Below.alloc ?_ (by simp; try omega) _ | with_reducible refine Below.setCell ?_ (by simp; try omega) _)
    ·simp; omega
   have hs1 := hb1.size
   simp at hs1
   obtain ⟨hc, hf⟩ := bcell hb1
   clear hb1
   go_wp2_with fail
   refine (HS.out _ trivial (HT.out.below HB1.out) (HP.out.below HB1.out) (HV.out.below HB1.out)).mono ?_
   rintro e w2 ⟨rfl, hb2⟩
   have HB2 := zA (HB1.out.trans (hb2.mono HB1.out.size))
   clear hb2 hc hf
   go_wp2_with fail
   go_ret
   exact ⟨rfl, HB2.out⟩
theorem zW {T : List TK} {P : List TP} {V : List Int} (h : xC T P V = 0) : T.length ≤ 12 ∧ P.length ≤ 60 ∧ V.length = P.length ∧ qN T = 0 ∧ tapsE T P V = 0 := by
 by_cases hm : 12 < T.length ∨ 60 < P.length ∨ P.length ≠ V.length
 ·rw [chkL_many hm] at h; cases h
 ·rcases chkL_split hm with ⟨h1, h2⟩ | ⟨h1, h2⟩
  ·exact absurd (h2.symm.trans h) h1
  ·exact ⟨by omega, by omega, by omega, h1, h2.symm.trans h⟩
def xW (w : World) (v : Value) (T : List TK) (P : List TP) (V : List Int) : Prop := ∃ v1 v2 v3, v = .agg #[v1, v2, v3] ∧ yJ w v1 T ∧ zR w v2 P ∧ zP w v3 V
theorem xW.below {w w' : World} {v : Value} {T : List TK} {P : List TP} {V : List Int} (h : xW w v T P V) (hb : Below w.heap.size w w') : xW w' v T P V :=
 have ⟨v1, v2, v3, e, h1, h2, h3⟩ := h; ⟨v1, v2, v3, e, h1.below hb, h2.below hb, h3.below hb⟩
theorem tiksV_nil (w : World) : yJ w (.slice none 0 0) [] := ⟨none, 0, rfl, fun i p h => by simp at h, by simp, fun _ => rfl⟩
theorem tapsV_nil (w : World) : zR w (.slice none 0 0) [] := ⟨none, 0, rfl, fun i p h => by simp at h, by simp, fun _ => rfl⟩
theorem intsV_nil (w : World) : zP w (.slice none 0 0) [] := ⟨none, 0, rfl, fun i p h => by simp at h, by simp, fun _ => rfl⟩
def sellE (T : List TK) (P : List TP) (V : List Int) (t : TK) : Int := zG [xC T P V, jV t, if qF T t.i = true then 6 else 0, if T.length = 12 then 2 else 0]
def qI (T : List TK) (t : TK) : List TK := T.take (qA T t.i) ++ [t] ++ T.drop (qA T t.i)
def BoxesS (w w1 : World) (o1 o2 o3 : Option Addr) (n1 c1 n2 c2 n3 c3 : Nat) (t : TK) : Prop :=
 Led3 w1 w.heap.size o1 o2 o3 n1 c1 n2 c2 n3 c3 ∧ Tik6 w1 ⟨w.heap.size + 1, 0, none⟩ t ∧ w1.heap[w.heap.size + 1 + 1]? = some (cL none none none 0 0 0 0 0 0 26) ∧ w.heap.size + 1 + 1 < w1.heap.size ∧ Below w.heap.size w w1
theorem heap_alloc_new' (w : World) (o : Obj) (n : Nat) (h : n = w.heap.size) : (w.alloc o).heap[n]? = some o := by
 subst h
 exact heap_alloc_new w o
theorem boxesS_of (o1 o2 o3 : Option Addr) (n1 c1 n2 c2 n3 c3 : Nat) (i k f t z r : Int) (w w1 : World) (h : Below (((w.alloc (cL o1 o2 o3 n1 c1 n2 c2 n3 c3 26)).alloc (cK i k f t z r 34)).alloc (cL none none none 0 0 0 0 0 0 26)).heap.size (((w.alloc (cL o1 o2 o3 n1 c1 n2 c2 n3 c3 26)).alloc (cK i k f t z r 34)).alloc (cL none none none 0 0 0 0 0 0 26)) w1) :
  BoxesS w w1 o1 o2 o3 n1 c1 n2 c2 n3 c3 ⟨i, k, f, t, z, r⟩ := by
 have s1 := h.size
 simp at s1
 refine ⟨Led3.below (w := ((w.alloc (cL o1 o2 o3 n1 c1 n2 c2 n3 c3 26)).alloc (cK i k f t z r 34)).alloc (cL none none none 0 0 0 0 0 0 26)) ⟨?_, ?_, ?_⟩ h (by simp; omega), Tik6.below (w := ((w.alloc (cL o1 o2 o3 n1 c1 n2 c2 n3 c3 26)).alloc (cK i k f t z r 34)).alloc (cL none none none 0 0 0 0 0 0 26)) ⟨?_, ?_, ?_, ?_, ?_, ?_⟩ h (by simp), ?_, by omega,
  Below.trans ((((Below.refl _ _).alloc (Nat.le_refl _) _).alloc (by simp) _).alloc (by simp; omega) _) (h.mono (by simp; omega))⟩
 all_goals first | (rw [h.block _ (by simp)]; exact heap_alloc_new' _ _ _ (by simp)) | simp [go_sem]
theorem BoxesS.on {w w1 w2 : World} {o1 o2 o3 : Option Addr} {n1 c1 n2 c2 n3 c3 : Nat} {t : TK} (h : BoxesS w w1 o1 o2 o3 n1 c1 n2 c2 n3 c3 t) (hb : Below w1.heap.size w1 w2) : BoxesS w w2 o1 o2 o3 n1 c1 n2 c2 n3 c3 t :=
 ⟨h.1.below hb h.1.lt, h.2.1.below hb h.2.1.lt, by rw [hb.block _ h.2.2.2.1]; exact h.2.2.1, Nat.lt_of_lt_of_le h.2.2.2.1 hb.size, h.2.2.2.2.trans (hb.mono h.2.2.2.2.size)⟩
def KeptS (w w' : World) (o1 o2 o3 : Option Addr) (n1 c1 n2 c2 n3 c3 : Nat) (t : TK) : Prop :=
 Led3 w' w.heap.size o1 o2 o3 n1 c1 n2 c2 n3 c3 ∧ Tik6 w' ⟨w.heap.size + 1, 0, none⟩ t ∧ w.heap.size + 1 + 1 < w'.heap.size ∧ Below w.heap.size w w'
theorem BoxesS.kept {w w1 : World} {o1 o2 o3 : Option Addr} {n1 c1 n2 c2 n3 c3 : Nat} {t : TK} (h : BoxesS w w1 o1 o2 o3 n1 c1 n2 c2 n3 c3 t) : KeptS w w1 o1 o2 o3 n1 c1 n2 c2 n3 c3 t := ⟨h.1, h.2.1, h.2.2.2.1, h.2.2.2.2⟩
theorem KeptS.set {w w1 : World} {o1 o2 o3 : Option Addr} {n1 c1 n2 c2 n3 c3 : Nat} {t : TK} (h : KeptS w w1 o1 o2 o3 n1 c1 n2 c2 n3 c3 t) (j : Nat) (u : Value) : KeptS w (w1.setCell ⟨w.heap.size + 1 + 1, j, none⟩ u) o1 o2 o3 n1 c1 n2 c2 n3 c3 t := by
 have hb : Below (w.heap.size + 1 + 1) w1 (w1.setCell ⟨w.heap.size + 1 + 1, j, none⟩ u) := Below.setCell (Below.refl _ _) (p := ⟨w.heap.size + 1 + 1, j, none⟩) (Nat.le_refl _) u
 exact ⟨h.1.below hb (by omega), h.2.1.below hb (by simp), Nat.lt_of_lt_of_le h.2.2.1 hb.size, h.2.2.2.trans (hb.mono (by omega))⟩
theorem at_set {w : World} {A : Addr} {p : Addr} {u : Value} {n : Nat} {v : Value} (hne : p.block < A.block) (h : w.cell? (A.add n) = some v) : (w.setCell p u).cell? (A.add n) = some v := by
 rw [World.cell?_setCell_other]
 ·exact h
 ·intro e
  have : (A.add n).block = A.block := add_block A n
  rw [← e] at this
  omega
theorem xF {w : World} {A : Addr} {p : Addr} {u : Value} {n j : Nat} {v : Value} (hne : p.block < A.block) (h : w.cell? ⟨(A.add n).block, (A.add n).off + j, none⟩ = some v) : (w.setCell p u).cell? ⟨(A.add n).block, (A.add n).off + j, none⟩ = some v := by
 rw [World.cell?_setCell_other]
 ·exact h
 ·intro e
  have : (A.add n).block = A.block := add_block A n
  rw [e] at hne
  simp only [] at hne
  omega
theorem yJ.set {w : World} {B : Nat} {v : Value} {L : List TK} (h : yJ w v L) (hf : zK B v) {p : Addr} (hp : p.block < B) (u : Value) : yJ (w.setCell p u) v L := by
 obtain ⟨o, c, rfl, h1, h2⟩ := h
 refine ⟨o, c, rfl, fun i x hi => ?_, h2⟩
 obtain ⟨b, rfl, a0, a1, a2, a3, a4, a5⟩ := h1 i x hi
 have hB : B ≤ b.block := hf _ rfl
 have hn : p.block < b.block := by omega
 exact ⟨b, rfl, at_set hn a0, xF hn a1, xF hn a2, xF hn a3, xF hn a4, xF hn a5⟩
theorem zR.set {w : World} {B : Nat} {v : Value} {L : List TP} (h : zR w v L) (hf : zK B v) {p : Addr} (hp : p.block < B) (u : Value) : zR (w.setCell p u) v L := by
 obtain ⟨o, c, rfl, h1, h2⟩ := h
 refine ⟨o, c, rfl, fun i x hi => ?_, h2⟩
 obtain ⟨b, rfl, a0, a1, a2, a3, a4⟩ := h1 i x hi
 have hB : B ≤ b.block := hf _ rfl
 have hn : p.block < b.block := by omega
 exact ⟨b, rfl, at_set hn a0, xF hn a1, xF hn a2, xF hn a3, xF hn a4⟩
theorem zP.set {w : World} {B : Nat} {v : Value} {L : List Int} (h : zP w v L) (hf : zK B v) {p : Addr} (hp : p.block < B) (u : Value) : zP (w.setCell p u) v L := by
 obtain ⟨o, c, rfl, h1, h2⟩ := h
 refine ⟨o, c, rfl, fun i x hi => ?_, h2⟩
 obtain ⟨b, rfl, a0⟩ := h1 i x hi
 have hB : B ≤ b.block := hf _ rfl
 have hn : p.block < b.block := by omega
 exact ⟨b, rfl, at_set hn a0⟩
theorem zK.mono {B C : Nat} {v : Value} (h : zK B v) (hc : C ≤ B) : zK C v := fun k hk => Nat.le_trans hc (h k hk)
def LedN (B : Nat) (w : World) (v : Value) (T : List TK) (P : List TP) (V : List Int) : Prop := ∃ v1 v2 v3, v = .agg #[v1, v2, v3] ∧ (yJ w v1 T ∧ zK B v1) ∧ (zR w v2 P ∧ zK B v2) ∧ (zP w v3 V ∧ zK B v3)
theorem yV (B : Nat) (w : World) : LedN B w (lg none none none 0 0 0 0 0 0) [] [] [] :=
 ⟨_, _, _, rfl, ⟨⟨none, 0, rfl, fun i p h => by simp at h, by simp, fun _ => rfl⟩, fun k hk => by simp [Value.ownBlock] at hk⟩, ⟨⟨none, 0, rfl, fun i p h => by simp at h, by simp, fun _ => rfl⟩, fun k hk => by simp [Value.ownBlock] at hk⟩, ⟨⟨none, 0, rfl, fun i p h => by simp at h, by simp, fun _ => rfl⟩, fun k hk => by simp [Value.ownBlock] at hk⟩⟩
theorem zV.take {w : World} {o : Option Addr} {L : List TK} (h : zV w o L) (n : Nat) : zV w o (L.take n) := fun i p hi => by
 rw [List.getElem?_take] at hi
 split at hi
 ·exact h i p hi
 ·cases hi
theorem add_add' (A : Addr) (n m : Nat) : (A.add n).add m = A.add (n + m) := by
 by_cases h1 : n = 0
 ·subst h1; simp [Addr.add]
 ·by_cases h2 : m = 0
  ·subst h2; simp [Addr.add]
  ·simp [Addr.add, h1, h2]
   omega
theorem zV.drop {w : World} {A : Addr} {L : List TK} (h : zV w (some A) L) (n c : Nat) (hc : L.length ≤ c) : zV w (if c = n then some A else some (A.add (n * 6))) (L.drop n) := fun i p hi => by
 rw [List.getElem?_drop] at hi
 have hlt := (List.getElem?_eq_some_iff.1 hi).1
 rw [if_neg (by omega)]
 obtain ⟨b, hb, h6⟩ := h (n + i) p hi
 cases hb
 refine ⟨_, rfl, ?_⟩
 rw [add_add', ← Nat.add_mul]
 exact h6
theorem tiksAt_one {w : World} {b : Nat} {p : TK} (h : Tik6 w ⟨b, 0, none⟩ p) : zV w (some ⟨b, 0, none⟩) [p] := by
 intro i q hq
 match i, hq with
 | 0, hq =>
  simp at hq
  subst hq
  exact ⟨_, rfl, by simpa [Addr.add] using h⟩
 | i + 1, hq => simp at hq
theorem sellF_any (T : List TK) (P : List TP) (V : List Int) (i k f t z r : Int) (o1 o2 o3 : Option Addr) (c1 c2 c3 : Nat) (w : World) (hT : zV w o1 T) (hP : zI w o2 P) (hV : zH w o3 V) (hlT : T.length ≤ 9223372036854775807) (hlP : P.length ≤ 9223372036854775807) (hlV : V.length ≤ 9223372036854775807)
    (hc1 : T.length ≤ c1) (hc2 : P.length ≤ c2) (hc3 : V.length ≤ c3) (hn1 : o1 = none → c1 = 0) :
    Calls Tryz.prog 124 #[lg o1 o2 o3 T.length c1 P.length c2 V.length c3, tk i k f t z r] w fun e w' =>
      (∃ v, e = .returned (.tuple #[v, .int .i64 (sellE T P V ⟨i, k, f, t, z, r⟩)]) ∧ LedN w.heap.size w' v (if sellE T P V ⟨i, k, f, t, z, r⟩ = 0 then qI T ⟨i, k, f, t, z, r⟩ else []) (if sellE T P V ⟨i, k, f, t, z, r⟩ = 0 then P else []) (if sellE T P V ⟨i, k, f, t, z, r⟩ = 0 then V else [])) ∧ Below w.heap.size w w' := by
  have HC := zA (fun W (h : zV W o1 T) (h' : zI W o2 P) (h'' : zH W o3 V) => checkLed_any T P V o1 o2 o3 c1 c2 c3 W h h' h'' hlT hlP hlV hc2 hc3)
  have HPl := zA (fun (h0 : xC T P V = 0) W (h : zV W o1 T) => place_any T i o1 o2 o3 c1 P.length c2 V.length c3 W h (zW h0).1 (rising_of (zW h0).2.2.2.1))
  have HK := zA (fun W => check_any i k f t z r W)
  have hlens0 : xC T P V = 0 → T.length ≤ 12 ∧ P.length ≤ 60 ∧ V.length ≤ 60 := fun h => by have := zW h; omega
  have hpos : qA T i ≤ T.length := by unfold qA; exact List.findIdx_le_length
  have HT := zA hT
  have HP := zA hP
  have HV := zA hV
  clear hT hP hV hlT hlP hlV
  generalize hE : sellE T P V ⟨i, k, f, t, z, r⟩ = E
  unfold sellE at hE
  rw [show jV ⟨i, k, f, t, z, r⟩ = chk i k f t z r from rfl] at hE
  simp only [] at hE
  unfold qI
  simp only []
  generalize xC T P V = X at *
  generalize chk i k f t z r = Y at *
  generalize qF T i = hs at *
  generalize qA T i = pos at *
  have hc : ((X != 0) = true ∧ E = X) ∨ (X = 0 ∧ (Y != 0) = true ∧ E = Y) ∨ (X = 0 ∧ Y = 0 ∧ hs = true ∧ E = 6) ∨ (X = 0 ∧ Y = 0 ∧ hs = false ∧ ((T.length : Int) == 12) = true ∧ E = 2) ∨ (X = 0 ∧ Y = 0 ∧ hs = false ∧ ((T.length : Int) == 12) = false ∧ E = 0) := by
    rw [← hE]
    by_cases h1 : X = 0
    · by_cases h2 : Y = 0
      · cases hs
        · by_cases h4 : T.length = 12
          · simp [zG, h1, h2, h4]
          · have : ¬ (T.length : Int) = 12 := by omega
            simp [zG, h1, h2, h4, this]
        · simp [zG, h1, h2]
      · simp [zG, h1, h2]
    · simp [zG, h1]
  clear hE
  rcases hc with ⟨h1, rfl⟩ | ⟨rfl, h2, rfl⟩ | ⟨rfl, rfl, rfl, rfl⟩ | ⟨rfl, rfl, rfl, h4, rfl⟩ | ⟨rfl, rfl, rfl, h4, rfl⟩
  all_goals try (have hE : ¬ E = 0 := by first | (simpa using h1) | (simpa using h2)
                 rw [if_neg hE, if_neg hE, if_neg hE])
  all_goals
    go_enter Tryz.func124, Tryz.ntmps124
    go_wp2_with fail
    refine (HC.out _ (HT.out.below ?_) (HP.out.below ?_) (HV.out.below ?_)).mono ?_
    · repeat (first | with_reducible exact Below.refl _ _ | with_reducible refine Below.alloc ?_ (by simp; try omega) _)
    · repeat (first | with_reducible exact Below.refl _ _ | with_reducible refine Below.alloc ?_ (by simp; try omega) _)
    · repeat (first | with_reducible exact Below.refl _ _ | with_reducible refine Below.alloc ?_ (by simp; try omega) _)
    rintro e w1 ⟨rfl, hb1⟩
    have HB1 := zA (boxesS_of _ _ _ _ _ _ _ _ _ _ _ _ _ _ _ _ _ hb1)
    clear hb1
  · have hE : ¬ E = 0 := by simpa using h1
    obtain ⟨⟨x0, x1, x2⟩, ⟨y0, y1, y2, y3, y4, y5⟩, hrow, -, -⟩ := HB1.out
    simp only [Nat.zero_add] at y0 y1 y2 y3 y4 y5
    have r0 := cell_of_row _ _ 0 _ _ _ hrow
    have r1 := cell_of_row _ _ 1 _ _ _ hrow
    have r2 := cell_of_row _ _ 2 _ _ _ hrow
    have s0 := frozen_of_row _ _ 0 _ _ hrow
    have s1 := frozen_of_row _ _ 1 _ _ hrow
    have s2 := frozen_of_row _ _ 2 _ _ hrow
    simp at r0 r1 r2
    clear hrow
    go_wp2_with fail
    refine bodyPost_ret (v := .tuple #[lg none none none 0 0 0 0 0 0, .int .i64 E]) (by simp [results, Tryz.results124, go_sem, *]) rfl ⟨⟨_, rfl, ?_⟩, ?_⟩
    · first | exact yV _ _ | (rw [if_neg hE, if_neg hE, if_neg hE]; exact yV _ _)
    · repeat (first | with_reducible refine Below.setCell ?_ (by simp; try omega) _ | exact HB1.out.2.2.2.2)
  · have hE : ¬ E = 0 := by simpa using h2
    obtain ⟨⟨x0, x1, x2⟩, ⟨y0, y1, y2, y3, y4, y5⟩, hrow, -, -⟩ := HB1.out
    simp only [Nat.zero_add] at y0 y1 y2 y3 y4 y5
    have r0 := cell_of_row _ _ 0 _ _ _ hrow
    have r1 := cell_of_row _ _ 1 _ _ _ hrow
    have r2 := cell_of_row _ _ 2 _ _ _ hrow
    have s0 := frozen_of_row _ _ 0 _ _ hrow
    have s1 := frozen_of_row _ _ 1 _ _ hrow
    have s2 := frozen_of_row _ _ 2 _ _ hrow
    simp at r0 r1 r2
    clear hrow
    go_wp2_with fail
    refine (HK.out _).mono ?_
    rintro e w2 ⟨rfl, hb2⟩
    have HB2 := zA (HB1.out.on hb2)
    clear hb2 HB1 x0 x1 x2 y0 y1 y2 y3 y4 y5 r0 r1 r2 s0 s1 s2
    obtain ⟨⟨x0, x1, x2⟩, ⟨y0, y1, y2, y3, y4, y5⟩, hrow, -, -⟩ := HB2.out
    simp only [Nat.zero_add] at y0 y1 y2 y3 y4 y5
    have r0 := cell_of_row _ _ 0 _ _ _ hrow
    have r1 := cell_of_row _ _ 1 _ _ _ hrow
    have r2 := cell_of_row _ _ 2 _ _ _ hrow
    have s0 := frozen_of_row _ _ 0 _ _ hrow
    have s1 := frozen_of_row _ _ 1 _ _ hrow
    have s2 := frozen_of_row _ _ 2 _ _ hrow
    simp at r0 r1 r2
    clear hrow
    go_wp2_with fail
    refine bodyPost_ret (v := .tuple #[lg none none none 0 0 0 0 0 0, .int .i64 E]) (by simp [results, Tryz.results124, go_sem, *]) rfl ⟨⟨_, rfl, ?_⟩, ?_⟩
    · first | exact yV _ _ | (rw [if_neg hE, if_neg hE, if_neg hE]; exact yV _ _)
    · repeat (first | with_reducible refine Below.setCell ?_ (by simp; try omega) _ | exact HB2.out.2.2.2.2)
  · have hE : ¬ (6 : Int) = 0 := by decide
    obtain ⟨⟨x0, x1, x2⟩, ⟨y0, y1, y2, y3, y4, y5⟩, hrow, -, -⟩ := HB1.out
    simp only [Nat.zero_add] at y0 y1 y2 y3 y4 y5
    have r0 := cell_of_row _ _ 0 _ _ _ hrow
    have r1 := cell_of_row _ _ 1 _ _ _ hrow
    have r2 := cell_of_row _ _ 2 _ _ _ hrow
    have s0 := frozen_of_row _ _ 0 _ _ hrow
    have s1 := frozen_of_row _ _ 1 _ _ hrow
    have s2 := frozen_of_row _ _ 2 _ _ hrow
    simp at r0 r1 r2
    clear hrow
    go_wp2_with fail
    refine (HK.out _).mono ?_
    rintro e w2 ⟨rfl, hb2⟩
    have HB2 := zA (HB1.out.on hb2)
    clear hb2 HB1 x0 x1 x2 y0 y1 y2 y3 y4 y5 r0 r1 r2 s0 s1 s2
    obtain ⟨⟨x0, x1, x2⟩, ⟨y0, y1, y2, y3, y4, y5⟩, hrow, -, -⟩ := HB2.out
    simp only [Nat.zero_add] at y0 y1 y2 y3 y4 y5
    have r0 := cell_of_row _ _ 0 _ _ _ hrow
    have r1 := cell_of_row _ _ 1 _ _ _ hrow
    have r2 := cell_of_row _ _ 2 _ _ _ hrow
    have s0 := frozen_of_row _ _ 0 _ _ hrow
    have s1 := frozen_of_row _ _ 1 _ _ hrow
    have s2 := frozen_of_row _ _ 2 _ _ hrow
    simp at r0 r1 r2
    clear hrow
    go_wp2_with fail
    refine (HPl.out trivial _ (HT.out.below HB2.out.2.2.2.2)).mono ?_
    rintro e w3 ⟨rfl, hb3⟩
    have HB3 := zA (HB2.out.on hb3)
    clear hb3 HB2 x0 x1 x2 y0 y1 y2 y3 y4 y5 r0 r1 r2 s0 s1 s2
    obtain ⟨⟨x0, x1, x2⟩, ⟨y0, y1, y2, y3, y4, y5⟩, hrow, -, -⟩ := HB3.out
    simp only [Nat.zero_add] at y0 y1 y2 y3 y4 y5
    have r0 := cell_of_row _ _ 0 _ _ _ hrow
    have r1 := cell_of_row _ _ 1 _ _ _ hrow
    have r2 := cell_of_row _ _ 2 _ _ _ hrow
    have s0 := frozen_of_row _ _ 0 _ _ hrow
    have s1 := frozen_of_row _ _ 1 _ _ hrow
    have s2 := frozen_of_row _ _ 2 _ _ hrow
    simp at r0 r1 r2
    clear hrow
    go_wp2_with fail
    refine bodyPost_ret (v := .tuple #[lg none none none 0 0 0 0 0 0, .int .i64 6]) (by simp [results, Tryz.results124, go_sem, *]) rfl ⟨⟨_, rfl, ?_⟩, ?_⟩
    · first | exact yV _ _ | (rw [if_neg hE, if_neg hE, if_neg hE]; exact yV _ _)
    · repeat (first | with_reducible refine Below.setCell ?_ (by simp; try omega) _ | exact HB3.out.2.2.2.2)
  · have hE : ¬ (2 : Int) = 0 := by decide
    obtain ⟨⟨x0, x1, x2⟩, ⟨y0, y1, y2, y3, y4, y5⟩, hrow, -, -⟩ := HB1.out
    simp only [Nat.zero_add] at y0 y1 y2 y3 y4 y5
    have r0 := cell_of_row _ _ 0 _ _ _ hrow
    have r1 := cell_of_row _ _ 1 _ _ _ hrow
    have r2 := cell_of_row _ _ 2 _ _ _ hrow
    have s0 := frozen_of_row _ _ 0 _ _ hrow
    have s1 := frozen_of_row _ _ 1 _ _ hrow
    have s2 := frozen_of_row _ _ 2 _ _ hrow
    simp at r0 r1 r2
    clear hrow
    go_wp2_with fail
    refine (HK.out _).mono ?_
    rintro e w2 ⟨rfl, hb2⟩
    have HB2 := zA (HB1.out.on hb2)
    clear hb2 HB1 x0 x1 x2 y0 y1 y2 y3 y4 y5 r0 r1 r2 s0 s1 s2
    obtain ⟨⟨x0, x1, x2⟩, ⟨y0, y1, y2, y3, y4, y5⟩, hrow, -, -⟩ := HB2.out
    simp only [Nat.zero_add] at y0 y1 y2 y3 y4 y5
    have r0 := cell_of_row _ _ 0 _ _ _ hrow
    have r1 := cell_of_row _ _ 1 _ _ _ hrow
    have r2 := cell_of_row _ _ 2 _ _ _ hrow
    have s0 := frozen_of_row _ _ 0 _ _ hrow
    have s1 := frozen_of_row _ _ 1 _ _ hrow
    have s2 := frozen_of_row _ _ 2 _ _ hrow
    simp at r0 r1 r2
    clear hrow
    go_wp2_with fail
    refine (HPl.out trivial _ (HT.out.below HB2.out.2.2.2.2)).mono ?_
    rintro e w3 ⟨rfl, hb3⟩
    have HB3 := zA (HB2.out.on hb3)
    clear hb3 HB2 x0 x1 x2 y0 y1 y2 y3 y4 y5 r0 r1 r2 s0 s1 s2
    obtain ⟨⟨x0, x1, x2⟩, ⟨y0, y1, y2, y3, y4, y5⟩, hrow, -, -⟩ := HB3.out
    simp only [Nat.zero_add] at y0 y1 y2 y3 y4 y5
    have r0 := cell_of_row _ _ 0 _ _ _ hrow
    have r1 := cell_of_row _ _ 1 _ _ _ hrow
    have r2 := cell_of_row _ _ 2 _ _ _ hrow
    have s0 := frozen_of_row _ _ 0 _ _ hrow
    have s1 := frozen_of_row _ _ 1 _ _ hrow
    have s2 := frozen_of_row _ _ 2 _ _ hrow
    simp at r0 r1 r2
    clear hrow
    go_wp2_with fail
    refine bodyPost_ret (v := .tuple #[lg none none none 0 0 0 0 0 0, .int .i64 2]) (by simp [results, Tryz.results124, go_sem, *]) rfl ⟨⟨_, rfl, ?_⟩, ?_⟩
    · first | exact yV _ _ | (rw [if_neg hE, if_neg hE, if_neg hE]; exact yV _ _)
    · repeat (first | with_reducible refine Below.setCell ?_ (by simp; try omega) _ | exact HB3.out.2.2.2.2)
  · obtain ⟨⟨x0, x1, x2⟩, ⟨y0, y1, y2, y3, y4, y5⟩, -, -, -⟩ := HB1.out
    simp only [Nat.zero_add] at y0 y1 y2 y3 y4 y5
    go_wp2_with fail
    refine (HK.out _).mono ?_
    rintro e w2 ⟨rfl, hb2⟩
    have HB2 := zA (HB1.out.on hb2)
    clear hb2 HB1 x0 x1 x2 y0 y1 y2 y3 y4 y5
    obtain ⟨⟨x0, x1, x2⟩, ⟨y0, y1, y2, y3, y4, y5⟩, -, -, -⟩ := HB2.out
    simp only [Nat.zero_add] at y0 y1 y2 y3 y4 y5
    go_wp2_with fail
    refine (HPl.out trivial _ (HT.out.below HB2.out.2.2.2.2)).mono ?_
    rintro e w3 ⟨rfl, hb3⟩
    have HB3 := zA (HB2.out.on hb3)
    clear hb3 HB2 x0 x1 x2 y0 y1 y2 y3 y4 y5
    obtain ⟨⟨x0, x1, x2⟩, ⟨y0, y1, y2, y3, y4, y5⟩, -, -, -⟩ := HB3.out
    simp only [Nat.zero_add] at y0 y1 y2 y3 y4 y5
    go_wp2_with fail
    have hlens := hlens0 trivial
    have hposc : pos ≤ c1 := by omega
    clear x0 x1 x2 y0 y1 y2 y3 y4 y5 hlens0 HC HPl HK
    cases o1 with
    | none =>
      have hT0 : T = [] := by
        cases T with
        | nil => rfl
        | cons x T => obtain ⟨b, hb, -⟩ := HT.out 0 x rfl; cases hb
      subst hT0
      obtain rfl : c1 = 0 := hn1 rfl
      obtain rfl : pos = 0 := by simpa using hpos
      simp only [List.length_nil] at HB3 hlens ⊢
      refine zJ (fun w' => KeptS w w' none o2 o3 0 0 P.length c2 V.length c3 ⟨i, k, f, t, z, r⟩) [0, 1, 2, 3, 4, 6, 7, 8, 9, 12, 13, 15, 16] 8 (by rfl) (by kernel_rfl) (by kernel_rfl) (by kernel_rfl) (fun c d v a w h => by cases d <;> exact h) ?_ ?_
      · exact (HB3.out.on (Below.refl _ _).drew).kept
      refine zB (.pointer (some ⟨w.heap.size, 0, none⟩)) rfl rfl (fun w' hS => ?_) ?_
      · obtain ⟨⟨x0, x1, x2⟩, ⟨y0, y1, y2, y3, y4, y5⟩, -, -⟩ := hS
        simp only [Nat.zero_add] at y0 y1 y2 y3 y4 y5
        go_simp
        try (intro h; omega)
      refine zB (.slice none 0 0) rfl rfl (fun w' hS => ?_) ?_
      · obtain ⟨⟨x0, x1, x2⟩, ⟨y0, y1, y2, y3, y4, y5⟩, -, -⟩ := hS
        simp only [Nat.zero_add] at y0 y1 y2 y3 y4 y5
        go_simp
        try (intro h; omega)
      refine zB (.int .i64 0) rfl rfl (fun w' hS => ?_) ?_
      · obtain ⟨⟨x0, x1, x2⟩, ⟨y0, y1, y2, y3, y4, y5⟩, -, -⟩ := hS
        simp only [Nat.zero_add] at y0 y1 y2 y3 y4 y5
        go_simp
        try (intro h; omega)
      refine zB (.slice none 0 0) rfl rfl (fun w' hS => ?_) ?_
      · obtain ⟨⟨x0, x1, x2⟩, ⟨y0, y1, y2, y3, y4, y5⟩, -, -⟩ := hS
        simp only [Nat.zero_add] at y0 y1 y2 y3 y4 y5
        go_simp
        try (intro h; omega)
      refine zB (tk i k f t z r) rfl rfl (fun w' hS => ?_) ?_
      · obtain ⟨⟨x0, x1, x2⟩, ⟨y0, y1, y2, y3, y4, y5⟩, -, -⟩ := hS
        simp only [Nat.zero_add] at y0 y1 y2 y3 y4 y5
        go_simp
        try (intro h; omega)
      refine zB (.pointer (some ⟨w.heap.size, 0, none⟩)) rfl rfl (fun w' hS => ?_) ?_
      · obtain ⟨⟨x0, x1, x2⟩, ⟨y0, y1, y2, y3, y4, y5⟩, -, -⟩ := hS
        simp only [Nat.zero_add] at y0 y1 y2 y3 y4 y5
        go_simp
        try (intro h; omega)
      refine zB (.slice none 0 0) rfl rfl (fun w' hS => ?_) ?_
      · obtain ⟨⟨x0, x1, x2⟩, ⟨y0, y1, y2, y3, y4, y5⟩, -, -⟩ := hS
        simp only [Nat.zero_add] at y0 y1 y2 y3 y4 y5
        go_simp
        try (intro h; omega)
      refine zB (.int .i64 0) rfl rfl (fun w' hS => ?_) ?_
      · obtain ⟨⟨x0, x1, x2⟩, ⟨y0, y1, y2, y3, y4, y5⟩, -, -⟩ := hS
        simp only [Nat.zero_add] at y0 y1 y2 y3 y4 y5
        go_simp
        try (intro h; omega)
      refine zB (.slice none 0 0) rfl rfl (fun w' hS => ?_) ?_
      · obtain ⟨⟨x0, x1, x2⟩, ⟨y0, y1, y2, y3, y4, y5⟩, -, -⟩ := hS
        simp only [Nat.zero_add] at y0 y1 y2 y3 y4 y5
        go_simp
        try (intro h; omega)
      refine zB (.pointer (some ⟨w.heap.size, 1, none⟩)) rfl rfl (fun w' hS => ?_) ?_
      · obtain ⟨⟨x0, x1, x2⟩, ⟨y0, y1, y2, y3, y4, y5⟩, -, -⟩ := hS
        simp only [Nat.zero_add] at y0 y1 y2 y3 y4 y5
        go_simp
        try (intro h; omega)
      refine zB (.slice o2 P.length c2) rfl rfl (fun w' hS => ?_) ?_
      · obtain ⟨⟨x0, x1, x2⟩, ⟨y0, y1, y2, y3, y4, y5⟩, -, -⟩ := hS
        simp only [Nat.zero_add] at y0 y1 y2 y3 y4 y5
        go_simp
        try (intro h; omega)
      refine zB (.pointer (some ⟨w.heap.size, 2, none⟩)) rfl rfl (fun w' hS => ?_) ?_
      · obtain ⟨⟨x0, x1, x2⟩, ⟨y0, y1, y2, y3, y4, y5⟩, -, -⟩ := hS
        simp only [Nat.zero_add] at y0 y1 y2 y3 y4 y5
        go_simp
        try (intro h; omega)
      refine zB (.slice o3 V.length c3) rfl rfl (fun w' hS => ?_) ?_
      · obtain ⟨⟨x0, x1, x2⟩, ⟨y0, y1, y2, y3, y4, y5⟩, -, -⟩ := hS
        simp only [Nat.zero_add] at y0 y1 y2 y3 y4 y5
        go_simp
        try (intro h; omega)
      refine zE ?_
      have HBa := zA (HB3.out.on ((Below.refl w3.heap.size w3).drew))
      clear HB3
      generalize w3.drew = wa at *
      refine oR 5 rfl rfl fun K hK => ?_
      go_simp
      have HBb := zA (HBa.out.on ((Below.refl wa.heap.size wa).alloc (Nat.le_refl _) (cK i k f t z r 34)))
      have HKb : Hid (Tik6 (wa.alloc (cK i k f t z r 34)) ⟨wa.heap.size, 0, none⟩ ⟨i, k, f, t, z, r⟩) := zA ⟨by simp [go_sem], by simp [go_sem], by simp [go_sem], by simp [go_sem], by simp [go_sem], by simp [go_sem]⟩
      refine hK _ _ HBb.out.kept ?_
      clear hK K HBa
      generalize hwb : wa.alloc (cK i k f t z r 34) = wb at *
      refine oR 10 rfl rfl fun K hK => ?_
      go_simp
      have hbw := (Below.refl wb.heap.size wb).alloc (Nat.le_refl _) (.cells #[.slice none 0 0, .slice (some ⟨wa.heap.size, 0, none⟩) 1 1, .slice none 0 0] 22)
      have HBc := zA (HBb.out.on hbw)
      have HPc : Hid (PiecesK (wb.alloc (.cells #[.slice none 0 0, .slice (some ⟨wa.heap.size, 0, none⟩) 1 1, .slice none 0 0] 22)) ⟨wb.heap.size, 0, none⟩
          [(none, [], 0), (some ⟨wa.heap.size, 0, none⟩, [⟨i, k, f, t, z, r⟩], 1), (none, [], 0)]) := by
        have hT6 := HKb.out.below hbw HKb.out.lt
        intro q o L cap hq
        match q, hq with
        | 0, hq =>
          simp at hq
          obtain ⟨rfl, rfl, rfl⟩ := hq
          exact ⟨by simp [Addr.add, go_sem], fun i p h => by simp at h, fun _ => rfl⟩
        | 1, hq =>
          simp at hq
          obtain ⟨rfl, rfl, rfl⟩ := hq
          exact ⟨by simp [Addr.add, go_sem], tiksAt_one hT6, fun h => by cases h⟩
        | 2, hq =>
          simp at hq
          obtain ⟨rfl, rfl, rfl⟩ := hq
          exact ⟨by simp [Addr.add, go_sem], fun i p h => by simp at h, fun _ => rfl⟩
        | q + 3, hq => simp at hq
      refine hK _ _ HBc.out.kept ?_
      clear hK K HBb HKb hbw
      generalize wb.alloc (.cells #[.slice none 0 0, .slice (some ⟨wa.heap.size, 0, none⟩) 1 1, .slice none 0 0] 22) = wc at *
      refine oR 11 rfl rfl fun K hK => ?_
      go_simp
      refine (concatK_any _ _ 3 wc HPc.out (by simp) (by simp [xO])).mono ?_
      rintro e wd ⟨⟨v1, rfl, hv1, hf1⟩, hbd⟩
      replace hv1 : yJ wd v1 [(⟨i, k, f, t, z, r⟩ : TK)] := by simpa using hv1
      generalize hM : [(⟨i, k, f, t, z, r⟩ : TK)] = M at hv1
      have HM := zA hM
      clear hM
      obtain ⟨oa, ca, rfl, ha⟩ := hv1
      have hv1 : yJ wd (.slice oa M.length ca) M := ⟨oa, ca, rfl, ha⟩
      clear ha
      have HBd := zA (HBc.out.on hbd)
      have hsz := HBc.out.2.2.2.1
      have HV1 := zA (And.intro hv1 (hf1.mono (show w.heap.size + 1 + 1 + 1 ≤ wc.heap.size by omega)))
      clear hv1 hf1 hbd HPc HBc hsz
      refine hK _ _ HBd.out.kept ?_
      clear hK K
      refine oR 14 rfl rfl fun K hK => ?_
      go_simp
      refine (cloneP_any P o2 c2 wd (HP.out.below HBd.out.2.2.2.2) (by omega)).mono ?_
      rintro e we ⟨⟨v2, rfl, ⟨ob, cb, rfl, hb⟩, hf2⟩, hbe⟩
      have hv2 : zR we (.slice ob P.length cb) P := ⟨ob, cb, rfl, hb⟩
      clear hb
      have HBe := zA (HBd.out.on hbe)
      have HV1e := zA (And.intro (HV1.out.1.below hbe) HV1.out.2)
      have hsz := HBd.out.2.2.2.1
      have HV2 := zA (And.intro hv2 (hf2.mono (show w.heap.size + 1 + 1 + 1 ≤ wd.heap.size by omega)))
      clear hv2 hf2 hbe HBd hsz HV1
      refine hK _ _ HBe.out.kept ?_
      clear hK K
      refine oR 17 rfl rfl fun K hK => ?_
      go_simp
      refine (jL V o3 c3 we (HV.out.below HBe.out.2.2.2.2) (by omega)).mono ?_
      rintro e wf ⟨⟨v3, rfl, ⟨oc, cc, rfl, hc⟩, hf3⟩, hbf⟩
      have hv3 : zP wf (.slice oc V.length cc) V := ⟨oc, cc, rfl, hc⟩
      clear hc
      have HBf := zA (HBe.out.on hbf)
      have HV1f := zA (And.intro (HV1e.out.1.below hbf) HV1e.out.2)
      have HV2f := zA (And.intro (HV2.out.1.below hbf) HV2.out.2)
      have hsz := HBe.out.2.2.2.1
      have HV3 := zA (And.intro hv3 (hf3.mono (show w.heap.size + 1 + 1 + 1 ≤ we.heap.size by omega)))
      clear hv3 hf3 hbf HBe hsz HV1e HV2
      refine hK _ _ HBf.out.kept ?_
      clear hK K
      refine oR 18 rfl rfl fun K hK => ?_
      go_simp
      refine hK _ _ HBf.out.kept ?_
      clear hK K
      have hrow := HBf.out.2.2.1
      have r0 := cell_of_row wf _ 0 _ _ _ hrow
      have r1 := cell_of_row wf _ 1 _ _ _ hrow
      have r2 := cell_of_row wf _ 2 _ _ _ hrow
      have s0 := frozen_of_row wf _ 0 _ _ hrow
      have s1 := frozen_of_row wf _ 1 _ _ hrow
      have s2 := frozen_of_row wf _ 2 _ _ hrow
      simp at r0 r1 r2
      clear hrow
      refine oR 19 rfl rfl fun K hK => ?_
      go_simp
      have HKg := zA (((HBf.out.kept.set 0 (.slice oa M.length ca)).set 1 (.slice ob P.length cb)).set 2 (.slice oc V.length cc))
      have HLg : Hid (Led3 (((wf.setCell ⟨w.heap.size + 1 + 1, 0, none⟩ (.slice oa M.length ca)).setCell ⟨w.heap.size + 1 + 1, 1, none⟩ (.slice ob P.length cb)).setCell ⟨w.heap.size + 1 + 1, 2, none⟩ (.slice oc V.length cc)) (w.heap.size + 1 + 1) oa ob oc M.length ca P.length cb V.length cc) := by
        refine zA ⟨?_, ?_, ?_⟩
        all_goals simp [go_sem, r0, r1, r2]
      have HVg : Hid (LedN w.heap.size (((wf.setCell ⟨w.heap.size + 1 + 1, 0, none⟩ (.slice oa M.length ca)).setCell ⟨w.heap.size + 1 + 1, 1, none⟩ (.slice ob P.length cb)).setCell ⟨w.heap.size + 1 + 1, 2, none⟩ (.slice oc V.length cc)) (lg oa ob oc M.length ca P.length cb V.length cc) M P V) := by
        obtain ⟨a1, a2⟩ := HV1f.out
        obtain ⟨b1, b2⟩ := HV2f.out
        obtain ⟨d1, d2⟩ := HV3.out
        exact zA ⟨_, _, _, rfl, ⟨((a1.set a2 (by simp) _).set a2 (by simp) _).set a2 (by simp) _, a2.mono (by omega)⟩, ⟨((b1.set b2 (by simp) _).set b2 (by simp) _).set b2 (by simp) _, b2.mono (by omega)⟩, ⟨((d1.set d2 (by simp) _).set d2 (by simp) _).set d2 (by simp) _, d2.mono (by omega)⟩⟩
      refine hK _ _ HKg.out ?_
      clear hK K HV1f HV2f HV3 HBf r0 r1 r2 s0 s1 s2
      generalize ((wf.setCell ⟨w.heap.size + 1 + 1, 0, none⟩ (.slice oa M.length ca)).setCell ⟨w.heap.size + 1 + 1, 1, none⟩ (.slice ob P.length cb)).setCell ⟨w.heap.size + 1 + 1, 2, none⟩ (.slice oc V.length cc) = wg at *
      refine oR 20 rfl rfl fun K hK => ?_
      go_simp
      refine hK _ _ HKg.out ?_
      clear hK K
      refine wpAnyH_done (by kernel_rfl) ?_ _
      obtain ⟨g0, g1, g2⟩ := HLg.out
      go_wp2_with fail
      refine bodyPost_ret (v := .tuple #[lg oa ob oc M.length ca P.length cb V.length cc, .int .i64 0]) (by simp [results, Tryz.results124, go_sem, g0, g1, g2]) rfl ⟨⟨_, rfl, ?_⟩, HKg.out.2.2.2⟩
      try simp only [List.take_nil, List.drop_nil, List.nil_append]
      rw [show [(⟨i, k, f, t, z, r⟩ : TK)] = M from HM.out]
      exact HVg.out
    | some A =>
      refine zJ (fun w' => KeptS w w' (some A) o2 o3 T.length c1 P.length c2 V.length c3 ⟨i, k, f, t, z, r⟩) [0, 1, 2, 3, 4, 6, 7, 8, 9, 12, 13, 15, 16] 8 (by rfl) (by kernel_rfl) (by kernel_rfl) (by kernel_rfl) (fun c d v a w h => by cases d <;> exact h) ?_ ?_
      · exact (HB3.out.on (Below.refl _ _).drew).kept
      refine zB (.pointer (some ⟨w.heap.size, 0, none⟩)) rfl rfl (fun w' hS => ?_) ?_
      · obtain ⟨⟨x0, x1, x2⟩, ⟨y0, y1, y2, y3, y4, y5⟩, -, -⟩ := hS
        simp only [Nat.zero_add] at y0 y1 y2 y3 y4 y5
        go_simp
        try (intro h; omega)
      refine zB (.slice (some A) T.length c1) rfl rfl (fun w' hS => ?_) ?_
      · obtain ⟨⟨x0, x1, x2⟩, ⟨y0, y1, y2, y3, y4, y5⟩, -, -⟩ := hS
        simp only [Nat.zero_add] at y0 y1 y2 y3 y4 y5
        go_simp
        try (intro h; omega)
      refine zB (.int .i64 (pos : Int)) rfl rfl (fun w' hS => ?_) ?_
      · obtain ⟨⟨x0, x1, x2⟩, ⟨y0, y1, y2, y3, y4, y5⟩, -, -⟩ := hS
        simp only [Nat.zero_add] at y0 y1 y2 y3 y4 y5
        go_simp
        try (intro h; omega)
      refine zB (.slice (some A) pos c1) rfl rfl (fun w' hS => ?_) ?_
      · obtain ⟨⟨x0, x1, x2⟩, ⟨y0, y1, y2, y3, y4, y5⟩, -, -⟩ := hS
        simp only [Nat.zero_add] at y0 y1 y2 y3 y4 y5
        go_simp
        try (intro h; omega)
      refine zB (tk i k f t z r) rfl rfl (fun w' hS => ?_) ?_
      · obtain ⟨⟨x0, x1, x2⟩, ⟨y0, y1, y2, y3, y4, y5⟩, -, -⟩ := hS
        simp only [Nat.zero_add] at y0 y1 y2 y3 y4 y5
        go_simp
        try (intro h; omega)
      refine zB (.pointer (some ⟨w.heap.size, 0, none⟩)) rfl rfl (fun w' hS => ?_) ?_
      · obtain ⟨⟨x0, x1, x2⟩, ⟨y0, y1, y2, y3, y4, y5⟩, -, -⟩ := hS
        simp only [Nat.zero_add] at y0 y1 y2 y3 y4 y5
        go_simp
        try (intro h; omega)
      refine zB (.slice (some A) T.length c1) rfl rfl (fun w' hS => ?_) ?_
      · obtain ⟨⟨x0, x1, x2⟩, ⟨y0, y1, y2, y3, y4, y5⟩, -, -⟩ := hS
        simp only [Nat.zero_add] at y0 y1 y2 y3 y4 y5
        go_simp
        try (intro h; omega)
      refine zB (.int .i64 (pos : Int)) rfl rfl (fun w' hS => ?_) ?_
      · obtain ⟨⟨x0, x1, x2⟩, ⟨y0, y1, y2, y3, y4, y5⟩, -, -⟩ := hS
        simp only [Nat.zero_add] at y0 y1 y2 y3 y4 y5
        go_simp
        try (intro h; omega)
      refine zB (.slice (if c1 = pos then some A else some (A.add (pos * 6))) (T.length - pos) (c1 - pos)) rfl rfl (fun w' hS => ?_) ?_
      · obtain ⟨⟨x0, x1, x2⟩, ⟨y0, y1, y2, y3, y4, y5⟩, -, -⟩ := hS
        simp only [Nat.zero_add] at y0 y1 y2 y3 y4 y5
        go_simp
        try (intro h; omega)
      refine zB (.pointer (some ⟨w.heap.size, 1, none⟩)) rfl rfl (fun w' hS => ?_) ?_
      · obtain ⟨⟨x0, x1, x2⟩, ⟨y0, y1, y2, y3, y4, y5⟩, -, -⟩ := hS
        simp only [Nat.zero_add] at y0 y1 y2 y3 y4 y5
        go_simp
        try (intro h; omega)
      refine zB (.slice o2 P.length c2) rfl rfl (fun w' hS => ?_) ?_
      · obtain ⟨⟨x0, x1, x2⟩, ⟨y0, y1, y2, y3, y4, y5⟩, -, -⟩ := hS
        simp only [Nat.zero_add] at y0 y1 y2 y3 y4 y5
        go_simp
        try (intro h; omega)
      refine zB (.pointer (some ⟨w.heap.size, 2, none⟩)) rfl rfl (fun w' hS => ?_) ?_
      · obtain ⟨⟨x0, x1, x2⟩, ⟨y0, y1, y2, y3, y4, y5⟩, -, -⟩ := hS
        simp only [Nat.zero_add] at y0 y1 y2 y3 y4 y5
        go_simp
        try (intro h; omega)
      refine zB (.slice o3 V.length c3) rfl rfl (fun w' hS => ?_) ?_
      · obtain ⟨⟨x0, x1, x2⟩, ⟨y0, y1, y2, y3, y4, y5⟩, -, -⟩ := hS
        simp only [Nat.zero_add] at y0 y1 y2 y3 y4 y5
        go_simp
        try (intro h; omega)
      refine zE ?_
      have HD := zA (fun W (h : zV W (some A) T) => h.drop pos c1 hc1)
      have HDn : Hid ((if c1 = pos then some A else some (A.add (pos * 6))) = none → c1 - pos = 0) := zA (fun h => by split at h <;> cases h)
      generalize (if c1 = pos then some A else some (A.add (pos * 6))) = oD at HD HDn ⊢
      have HBa := zA (HB3.out.on ((Below.refl w3.heap.size w3).drew))
      clear HB3
      generalize w3.drew = wa at *
      refine oR 5 rfl rfl fun K hK => ?_
      go_simp
      have HBb := zA (HBa.out.on ((Below.refl wa.heap.size wa).alloc (Nat.le_refl _) (cK i k f t z r 34)))
      have HKb : Hid (Tik6 (wa.alloc (cK i k f t z r 34)) ⟨wa.heap.size, 0, none⟩ ⟨i, k, f, t, z, r⟩) := zA ⟨by simp [go_sem], by simp [go_sem], by simp [go_sem], by simp [go_sem], by simp [go_sem], by simp [go_sem]⟩
      refine hK _ _ HBb.out.kept ?_
      clear hK K HBa
      generalize hwb : wa.alloc (cK i k f t z r 34) = wb at *
      refine oR 10 rfl rfl fun K hK => ?_
      go_simp
      have hbw := (Below.refl wb.heap.size wb).alloc (Nat.le_refl _) (.cells #[.slice (some A) pos c1, .slice (some ⟨wa.heap.size, 0, none⟩) 1 1, .slice oD (T.length - pos) (c1 - pos)] 22)
      have HBc := zA (HBb.out.on hbw)
      have HPc : Hid (PiecesK (wb.alloc (.cells #[.slice (some A) pos c1, .slice (some ⟨wa.heap.size, 0, none⟩) 1 1, .slice oD (T.length - pos) (c1 - pos)] 22)) ⟨wb.heap.size, 0, none⟩
          [(some A, T.take pos, c1), (some ⟨wa.heap.size, 0, none⟩, [⟨i, k, f, t, z, r⟩], 1), (oD, T.drop pos, c1 - pos)]) := by
        have hTw := HT.out.below HBc.out.2.2.2.2
        have hT6 := HKb.out.below hbw HKb.out.lt
        intro q o L cap hq
        match q, hq with
        | 0, hq =>
          simp at hq
          obtain ⟨rfl, rfl, rfl⟩ := hq
          refine ⟨?_, hTw.take pos, fun h => by cases h⟩
          rw [List.length_take, Nat.min_eq_left hpos]
          simp [Addr.add, go_sem]
        | 1, hq =>
          simp at hq
          obtain ⟨rfl, rfl, rfl⟩ := hq
          exact ⟨by simp [Addr.add, go_sem], tiksAt_one hT6, fun h => by cases h⟩
        | 2, hq =>
          simp at hq
          obtain ⟨rfl, rfl, rfl⟩ := hq
          refine ⟨?_, HD.out _ hTw, HDn.out⟩
          rw [List.length_drop]
          simp [Addr.add, go_sem]
        | q + 3, hq => simp at hq
      refine hK _ _ HBc.out.kept ?_
      clear hK K HBb HKb hbw
      generalize wb.alloc (.cells #[.slice (some A) pos c1, .slice (some ⟨wa.heap.size, 0, none⟩) 1 1, .slice oD (T.length - pos) (c1 - pos)] 22) = wc at *
      refine oR 11 rfl rfl fun K hK => ?_
      go_simp
      refine (concatK_any _ _ 3 wc HPc.out (by simp) (by simp [xO]; omega)).mono ?_
      rintro e wd ⟨⟨v1, rfl, hv1, hf1⟩, hbd⟩
      replace hv1 : yJ wd v1 (T.take pos ++ [⟨i, k, f, t, z, r⟩] ++ T.drop pos) := by simpa using hv1
      generalize hM : T.take pos ++ [⟨i, k, f, t, z, r⟩] ++ T.drop pos = M at hv1
      have HM := zA hM
      clear hM
      obtain ⟨oa, ca, rfl, ha⟩ := hv1
      have hv1 : yJ wd (.slice oa M.length ca) M := ⟨oa, ca, rfl, ha⟩
      clear ha
      have HBd := zA (HBc.out.on hbd)
      have hsz := HBc.out.2.2.2.1
      have HV1 := zA (And.intro hv1 (hf1.mono (show w.heap.size + 1 + 1 + 1 ≤ wc.heap.size by omega)))
      clear hv1 hf1 hbd HPc HBc hsz
      refine hK _ _ HBd.out.kept ?_
      clear hK K
      refine oR 14 rfl rfl fun K hK => ?_
      go_simp
      refine (cloneP_any P o2 c2 wd (HP.out.below HBd.out.2.2.2.2) (by omega)).mono ?_
      rintro e we ⟨⟨v2, rfl, ⟨ob, cb, rfl, hb⟩, hf2⟩, hbe⟩
      have hv2 : zR we (.slice ob P.length cb) P := ⟨ob, cb, rfl, hb⟩
      clear hb
      have HBe := zA (HBd.out.on hbe)
      have HV1e := zA (And.intro (HV1.out.1.below hbe) HV1.out.2)
      have hsz := HBd.out.2.2.2.1
      have HV2 := zA (And.intro hv2 (hf2.mono (show w.heap.size + 1 + 1 + 1 ≤ wd.heap.size by omega)))
      clear hv2 hf2 hbe HBd hsz HV1
      refine hK _ _ HBe.out.kept ?_
      clear hK K
      refine oR 17 rfl rfl fun K hK => ?_
      go_simp
      refine (jL V o3 c3 we (HV.out.below HBe.out.2.2.2.2) (by omega)).mono ?_
      rintro e wf ⟨⟨v3, rfl, ⟨oc, cc, rfl, hc⟩, hf3⟩, hbf⟩
      have hv3 : zP wf (.slice oc V.length cc) V := ⟨oc, cc, rfl, hc⟩
      clear hc
      have HBf := zA (HBe.out.on hbf)
      have HV1f := zA (And.intro (HV1e.out.1.below hbf) HV1e.out.2)
      have HV2f := zA (And.intro (HV2.out.1.below hbf) HV2.out.2)
      have hsz := HBe.out.2.2.2.1
      have HV3 := zA (And.intro hv3 (hf3.mono (show w.heap.size + 1 + 1 + 1 ≤ we.heap.size by omega)))
      clear hv3 hf3 hbf HBe hsz HV1e HV2
      refine hK _ _ HBf.out.kept ?_
      clear hK K
      refine oR 18 rfl rfl fun K hK => ?_
      go_simp
      refine hK _ _ HBf.out.kept ?_
      clear hK K
      have hrow := HBf.out.2.2.1
      have r0 := cell_of_row wf _ 0 _ _ _ hrow
      have r1 := cell_of_row wf _ 1 _ _ _ hrow
      have r2 := cell_of_row wf _ 2 _ _ _ hrow
      have s0 := frozen_of_row wf _ 0 _ _ hrow
      have s1 := frozen_of_row wf _ 1 _ _ hrow
      have s2 := frozen_of_row wf _ 2 _ _ hrow
      simp at r0 r1 r2
      clear hrow
      refine oR 19 rfl rfl fun K hK => ?_
      go_simp
      have HKg := zA (((HBf.out.kept.set 0 (.slice oa M.length ca)).set 1 (.slice ob P.length cb)).set 2 (.slice oc V.length cc))
      have HLg : Hid (Led3 (((wf.setCell ⟨w.heap.size + 1 + 1, 0, none⟩ (.slice oa M.length ca)).setCell ⟨w.heap.size + 1 + 1, 1, none⟩ (.slice ob P.length cb)).setCell ⟨w.heap.size + 1 + 1, 2, none⟩ (.slice oc V.length cc)) (w.heap.size + 1 + 1) oa ob oc M.length ca P.length cb V.length cc) := by
        refine zA ⟨?_, ?_, ?_⟩
        all_goals simp [go_sem, r0, r1, r2]
      have HVg : Hid (LedN w.heap.size (((wf.setCell ⟨w.heap.size + 1 + 1, 0, none⟩ (.slice oa M.length ca)).setCell ⟨w.heap.size + 1 + 1, 1, none⟩ (.slice ob P.length cb)).setCell ⟨w.heap.size + 1 + 1, 2, none⟩ (.slice oc V.length cc)) (lg oa ob oc M.length ca P.length cb V.length cc) M P V) := by
        obtain ⟨a1, a2⟩ := HV1f.out
        obtain ⟨b1, b2⟩ := HV2f.out
        obtain ⟨d1, d2⟩ := HV3.out
        exact zA ⟨_, _, _, rfl, ⟨((a1.set a2 (by simp) _).set a2 (by simp) _).set a2 (by simp) _, a2.mono (by omega)⟩, ⟨((b1.set b2 (by simp) _).set b2 (by simp) _).set b2 (by simp) _, b2.mono (by omega)⟩, ⟨((d1.set d2 (by simp) _).set d2 (by simp) _).set d2 (by simp) _, d2.mono (by omega)⟩⟩
      refine hK _ _ HKg.out ?_
      clear hK K HV1f HV2f HV3 HBf r0 r1 r2 s0 s1 s2
      generalize ((wf.setCell ⟨w.heap.size + 1 + 1, 0, none⟩ (.slice oa M.length ca)).setCell ⟨w.heap.size + 1 + 1, 1, none⟩ (.slice ob P.length cb)).setCell ⟨w.heap.size + 1 + 1, 2, none⟩ (.slice oc V.length cc) = wg at *
      refine oR 20 rfl rfl fun K hK => ?_
      go_simp
      refine hK _ _ HKg.out ?_
      clear hK K
      refine wpAnyH_done (by kernel_rfl) ?_ _
      obtain ⟨g0, g1, g2⟩ := HLg.out
      go_wp2_with fail
      refine bodyPost_ret (v := .tuple #[lg oa ob oc M.length ca P.length cb V.length cc, .int .i64 0]) (by simp [results, Tryz.results124, go_sem, g0, g1, g2]) rfl ⟨⟨_, rfl, ?_⟩, HKg.out.2.2.2⟩
      rw [show T.take pos ++ (⟨i, k, f, t, z, r⟩ :: T.drop pos) = M by rw [← HM.out]; simp]
      exact HVg.out
end
section
open Go.RowKit
section
variable {P : Program} {ops : Array Oper} {Q : Exit → Act → World → Prop} {S : World → Prop} {φ : Nat → Value → World → Prop}
def dstK (ops : Array Oper) (k : Nat) : Nat := ((ops[k]?).bind (·.dst)).getD 0
def plainM (ops : Array Oper) (n : Nat) (tail : Array Bool) : Bool :=
 decide (n ≤ ops.size) &&
 (List.range n).all (fun k => match ops[k]? with
  | some o => o.guard.isNone && o.dst.isSome && o.after.all (fun e => !Region.binds .any e || decide (e.on < k))
  | none => false) &&
 (List.range n).all (fun k => (List.range n).all fun j => j == k || dstK ops j != dstK ops k) &&
 (List.range ops.size).all (fun j => decide (j < n) || tail.getD (j - n) false || match ops[j]? with
  | some o => (List.range n).all fun k => o.after.any fun e => Region.binds .any e && e.on == k
  | none => true)
def puts (ops : Array Oper) (n : Nat) (listed : Array Bool) (vals : Nat → Value) (a0 : Act) : Act :=
 (List.range n).foldl (fun a k => if listed.getD k false = true then a.put (some (dstK ops k)) (vals k) else a) a0
theorem puts_succ (n : Nat) (listed : Array Bool) (vals : Nat → Value) (a0 : Act) :
  puts ops (n + 1) listed vals a0 = if listed.getD n false = true then (puts ops n listed vals a0).put (some (dstK ops n)) (vals n) else puts ops n listed vals a0 := by
 simp [puts, List.range_succ, List.foldl_append]
theorem puts_size (n : Nat) (listed : Array Bool) (vals : Nat → Value) (a0 : Act) : (puts ops n listed vals a0).tmps.size = a0.tmps.size := by
 induction n with
 | zero => rfl
 | succ n ih =>
  rw [puts_succ]
  split
  ·simp [Act.put, ih]
  ·exact ih
theorem puts_other (n : Nat) (listed : Array Bool) (vals : Nat → Value) (a0 : Act) (d : Nat) (h : ∀ j, j < n → dstK ops j ≠ d) : (puts ops n listed vals a0).eval (.tmp d) = a0.eval (.tmp d) := by
 induction n with
 | zero => rfl
 | succ n ih =>
  rw [puts_succ]
  split
  ·rw [Act.eval_put_ne _ _ _ _ (h n (by omega))]
   exact ih fun j hj => h j (by omega)
  ·exact ih fun j hj => h j (by omega)
theorem puts_at (n : Nat) (listed : Array Bool) (vals : Nat → Value) (a0 : Act) (hd : ∀ j k, j < n → k < n → j ≠ k → dstK ops j ≠ dstK ops k) (hs : ∀ j, j < n → dstK ops j < a0.tmps.size)
  (j : Nat) (hj : j < n) (hl : listed.getD j false = true) : (puts ops n listed vals a0).eval (.tmp (dstK ops j)) = vals j := by
 induction n with
 | zero => omega
 | succ n ih =>
  rw [puts_succ]
  rcases Nat.lt_or_ge j n with h | h
  ·have := ih (fun j k hj hk => hd j k (by omega) (by omega)) (fun j hj => hs j (by omega)) h
   split
   ·rw [Act.eval_put_ne _ _ _ _ (hd n j (by omega) (by omega) (by omega))]
    exact this
   ·exact this
  ·obtain rfl : j = n := by omega
   rw [if_pos hl, Act.eval_put_same _ _ _ (by rw [puts_size]; exact hs j hj)]
theorem getD_set' (listed : Array Bool) (i k : Nat) (hi : i < listed.size) : (listed.setIfInBounds i true).getD k false = if k = i then true else listed.getD k false := by
 by_cases h : k = i
 ·subst h
  simp [Array.getD, hi]
 ·rw [if_neg h]
  simp only [Array.getD_eq_getD_getElem?]
  rw [Array.getElem?_setIfInBounds_ne (by omega)]
theorem puts_set (n : Nat) (listed : Array Bool) (vals : Nat → Value) (a0 : Act) (i : Nat) (v : Value) (hi : i < listed.size) (hl : listed.getD i false = false) (hd : ∀ j k, j < n → k < n → j ≠ k → dstK ops j ≠ dstK ops k) :
  puts ops n (listed.setIfInBounds i true) (fun k => if k = i then v else vals k) a0 = if i < n then (puts ops n listed vals a0).put (some (dstK ops i)) v else puts ops n listed vals a0 := by
 induction n with
 | zero => simp [puts]
 | succ n ih =>
  have ih := ih (fun j k hj hk => hd j k (by omega) (by omega))
  rw [puts_succ, puts_succ, ih, getD_set' _ _ _ hi]
  rcases Nat.lt_trichotomy i n with h | rfl | h
  ·rw [if_pos (show i < n + 1 by omega), if_pos h, if_neg (show ¬ n = i by omega), if_neg (show ¬ n = i by omega)]
   split
   ·rw [Act.put_comm _ _ _ (fun d e e' => hd i n (by omega) (by omega) (by omega) ((Option.some.inj e).trans (Option.some.inj e').symm))]
   ·rfl
  ·rw [if_pos (show i < i + 1 by omega), if_neg (Nat.lt_irrefl i), if_pos rfl, if_pos rfl, if_pos rfl, hl]
   simp
  ·rw [if_neg (show ¬ i < n + 1 by omega), if_neg (show ¬ i < n by omega), if_neg (show ¬ n = i by omega), if_neg (show ¬ n = i by omega)]
def left (n : Nat) (listed : Array Bool) : Nat := ((List.range n).filter fun k => listed.getD k false == false).length
theorem left_succ (n : Nat) (listed : Array Bool) : left (n + 1) listed = left n listed + if listed.getD n false = true then 0 else 1 := by
 unfold left
 rw [List.range_succ, List.filter_append, List.length_append]
 congr 1
 rw [List.filter_cons, List.filter_nil]
 cases listed.getD n false <;> rfl
theorem left_set (n : Nat) (listed : Array Bool) (i : Nat) (hi : i < listed.size) (hin : i < n) (hl : listed.getD i false = false) : left n listed = left n (listed.setIfInBounds i true) + 1 := by
 induction n with
 | zero => omega
 | succ n ih =>
  rw [left_succ, left_succ, getD_set' _ _ _ hi]
  rcases Nat.lt_or_ge i n with h | h
  ·rw [ih h, if_neg (show ¬ n = i by omega)]
   omega
  ·obtain rfl : i = n := by omega
   rw [if_pos rfl, hl]
   have : ∀ m, m ≤ i → left m (listed.setIfInBounds i true) = left m listed := by
    intro m hm
    induction m with
    | zero => rfl
    | succ m ihm =>
     rw [left_succ, left_succ, ihm (by omega), getD_set' _ _ _ hi, if_neg (show ¬ m = i by omega)]
   rw [this i (Nat.le_refl _)]
   simp
theorem left_zero (n : Nat) (listed : Array Bool) (h : left n listed = 0) : ∀ k, k < n → listed.getD k false = true := by
 induction n with
 | zero => intro k hk; omega
 | succ n ih =>
  rw [left_succ] at h
  intro k hk
  rcases Nat.lt_or_ge k n with h' | h'
  ·exact ih (by omega) k h'
  ·obtain rfl : k = n := by omega
   cases hc : listed.getD k false
   ·rw [hc] at h; simp at h
   ·rfl
theorem left_pos (n : Nat) (listed : Array Bool) (h : 0 < left n listed) : ∃ k, k < n ∧ listed.getD k false = false ∧ ∀ j, j < k → listed.getD j false = true := by
 induction n with
 | zero => simp [left] at h
 | succ n ih =>
  rcases Nat.eq_zero_or_pos (left n listed) with h0 | h0
  ·rw [left_succ, h0] at h
   refine ⟨n, by omega, ?_, left_zero n listed h0⟩
   cases hc : listed.getD n false
   ·rfl
   ·rw [hc] at h; simp at h
  ·obtain ⟨k, h1, h2⟩ := ih h0
   exact ⟨k, by omega, h2⟩
theorem makers {n m : Nat} {tail : Array Bool} {a0 : Act} (hp : plainM ops n tail = true) (hsz : ops.size = n + tail.size) (hs : ∀ j, j < n → dstK ops j < a0.tmps.size)
  (hφ : ∀ k v w w', φ k v w → Below w.heap.size w w' → φ k v w')
  (hstep : ∀ k o, k < n → ops[k]? = some o → ∀ a w, S w → (∀ e ∈ o.after, Region.binds .any e = true → φ e.on (a.eval (.tmp (dstK ops e.on))) w) → (∀ d, (∀ j, j < n → dstK ops j ≠ d) → a.eval (.tmp d) = a0.eval (.tmp d)) →
   ∀ K' : Act → World → Prop, (∀ v w', φ k v w' → S w' → Below w.heap.size w w' → K' (a.put o.dst v) w') → o.wp P a w K' Q)
  (hend : ∀ vals w, S w → (∀ k, k < n → φ k (vals k) w) → wpAny P .any ops Q m (Array.replicate n true ++ tail) (puts ops n (Array.replicate n true ++ tail) vals a0) w) :
  ∀ (c : Nat) (listed : Array Bool) (vals : Nat → Value) (w : World), left n listed = c → listed.size = n + tail.size → (∀ k, n ≤ k → k < n + tail.size → listed.getD k true = tail.getD (k - n) true) → S w → (∀ k, k < n → listed.getD k false = true → φ k (vals k) w) →
   wpAny P .any ops Q (m + c) listed (puts ops n listed vals a0) w := by
 simp only [plainM, Bool.and_eq_true, List.all_eq_true, List.mem_range, decide_eq_true_eq] at hp
 obtain ⟨⟨⟨_, hp1⟩, hp2⟩, hp3⟩ := hp
 have hd : ∀ j k, j < n → k < n → j ≠ k → dstK ops j ≠ dstK ops k := by
  intro j k hj hk hne
  have := hp2 k hk j hj
  simp only [Bool.or_eq_true, beq_iff_eq, bne_iff_ne] at this
  rcases this with h | h
  ·exact absurd h hne
  ·exact h
 intro c
 induction c with
 | zero =>
  intro listed vals w hc hls hhi hS hv
  have hall := left_zero n listed hc
  have he : listed = Array.replicate n true ++ tail := by
   apply Array.ext
   ·simp [hls]
   ·intro k h1 h2
    rcases Nat.lt_or_ge k n with h | h
    ·have := hall k h
     simp [Array.getD, h1] at this
     simp [h, this]
    ·have hkt : k - n < tail.size := by omega
     have := hhi k h (by omega)
     simp [Array.getD, h1, hkt] at this
     simp [Array.getElem_append, show ¬ k < n by omega, this]
  rw [he]
  exact hend vals w hS (fun k hk => hv k hk (hall k hk))
 | succ c ih =>
  intro listed vals w hc hls hhi hS hv
  refine ⟨fun hr => ?_, fun i hi => ?_⟩
  ·obtain ⟨k, hk, hkl, hkb⟩ := left_pos n listed (by omega)
   exfalso
   have : k ∈ Region.ready .any ops listed := by
    rw [mem_ready]
    have hk1 := hp1 k hk
    cases ho : ops[k]? with
    | none => rw [ho] at hk1; cases hk1
    | some o =>
     rw [ho] at hk1
     simp only [Bool.and_eq_true, Array.all_eq_true'] at hk1
     refine ⟨?_, o, rfl, fun e he hb => ?_⟩
     ·have : k < listed.size := by omega
      simp [Array.getD, this] at hkl ⊢
      exact hkl
     ·have := hk1.2 e he
      rw [hb] at this
      simp at this
      exact hkb e.on this
   rw [hr] at this
   cases this
  ·obtain ⟨hil, o, ho, hall⟩ := mem_ready.1 hi
   have his : i < listed.size := by
    rcases Nat.lt_or_ge i listed.size with h | h
    ·exact h
    ·simp [Array.getD, show ¬ i < listed.size by omega] at hil
   have hil' : listed.getD i false = false := by simp [Array.getD, his] at hil ⊢; exact hil
   have hin : i < n := by
    rcases Nat.lt_or_ge i n with h | h
    ·exact h
    ·exfalso
     obtain ⟨k, hk, hkl, _⟩ := left_pos n listed (by omega)
     have h3 := hp3 i (by omega)
     rw [ho] at h3
     simp only [Bool.or_eq_true, decide_eq_true_eq, List.all_eq_true, List.mem_range] at h3
     rcases h3 with (h3 | h3) | h3
     ·omega
     ·have h5 := hhi i h (by omega)
      have hkt : i - n < tail.size := by omega
      rw [hil] at h5
      simp [Array.getD, hkt] at h3 h5
      rw [h3] at h5
      cases h5
     ·have h4 := h3 k hk
      rw [Array.any_eq_true'] at h4
      obtain ⟨e, he, hb⟩ := h4
      simp only [Bool.and_eq_true, beq_iff_eq] at hb
      have := hall e he hb.1
      rw [hb.2, hkl] at this
      cases this
   have hk1 := hp1 i hin
   rw [ho] at hk1
   simp only [Bool.and_eq_true, Array.all_eq_true'] at hk1
   have hg : o.guard = none := by simpa using hk1.1.1
   have hdst : o.dst = some (dstK ops i) := by
    have h2 := hk1.1.2
    cases hdd : o.dst with
    | none => rw [hdd] at h2; cases h2
    | some d => simp [dstK, ho, hdd]
   unfold wpOp
   simp only [ho]
   rw [if_pos (by simp [Region.wanted, hg])]
   refine .inl (hstep i o hin ho _ w hS (fun e he hb => ?_) (fun d hdn => puts_other n listed vals a0 d hdn) _ (fun v w' hv' hS' hb' => ?_))
   ·have h1 := hall e he hb
    have h2 : e.on < i := by
     have := hk1.2 e he
     rw [hb] at this
     simpa using this
    rw [puts_at n listed vals a0 hd hs e.on (by omega) h1]
    exact hv e.on (by omega) h1
   ·rw [hdst]
    have e := puts_set (ops := ops) n listed vals a0 i v his hil' hd
    rw [if_pos hin] at e
    rw [← e]
    have hcs := left_set n listed i his hin hil'
    refine ih _ _ w' (by omega) (by simp [hls]) (fun k hk hkm => ?_) hS' (fun k hk hkl => ?_)
    ·rw [getD_set_ne true (show i ≠ k by omega)]
     exact hhi k hk hkm
    ·rw [getD_set' _ _ _ his] at hkl
     by_cases hki : k = i
     ·subst hki
      simp only [if_true]
      exact hv'
     ·simp only [if_neg hki] at hkl ⊢
      exact hφ k _ w w' (hv k hk hkl) hb'
def putsD : List Nat → Nat → (Nat → Value) → Act → Act
 | [], _, _, a => a
 | d :: ds, k, vals, a => putsD ds (k + 1) vals (a.put (some d) (vals k))
theorem putsD_snoc (ds : List Nat) (d : Nat) (k : Nat) (vals : Nat → Value) (a : Act) : putsD (ds ++ [d]) k vals a = (putsD ds k vals a).put (some d) (vals (k + ds.length)) := by
 induction ds generalizing k a with
 | nil => rfl
 | cons x ds ih =>
  rw [List.cons_append, putsD, putsD, ih, List.length_cons]
  congr 2
  omega
theorem puts_all (n : Nat) (listed : Array Bool) (vals : Nat → Value) (a0 : Act) (h : ∀ k, k < n → listed.getD k false = true) : puts ops n listed vals a0 = putsD ((List.range n).map (dstK ops)) 0 vals a0 := by
 induction n with
 | zero => rfl
 | succ n ih =>
  rw [puts_succ, if_pos (h n (by omega)), ih (fun k hk => h k (by omega)), List.range_succ, List.map_append, List.map_singleton, putsD_snoc]
  simp
theorem ev_of {a : Act} {d : Nat} {v : Value} (h : a.eval (.tmp d) = v) : a.tmps[d]?.getD undef = v := by
 simpa [Act.eval] using h
theorem one_ready {i : Nat} {o : Oper} {fuel : Nat} {listed : Array Bool} {a : Act} {w : World} (hr : Region.ready .any ops listed = [i]) (ho : ops[i]? = some o) (hg : o.guard = none)
  (h : ∀ K' : Act → World → Prop, (∀ a w, wpAny P .any ops Q fuel (listed.setIfInBounds i true) a w → K' a w) → o.wp P a w K' Q) : wpAny P .any ops Q (fuel + 1) listed a w := by
 refine wpAny_all hr (by simp) (fun j hj => ?_)
 obtain rfl : j = i := by simpa using hj
 unfold wpOp
 simp only [ho]
 rw [if_pos (by simp [Region.wanted, hg])]
 exact .inl (h _ (fun _ _ h => h))
theorem wpAny_makers {a0 : Act} {w : World} {l : List Oper} {listed : Array Bool} (S : World → Prop) (φ : Nat → Value → World → Prop) (n m : Nat) (tail : Array Bool) (ds : List Nat) (hds : (List.range n).map (dstK l.toArray) = ds) (hls : listed = Array.replicate n false ++ tail) (hp : plainM l.toArray n tail = true) (hsz : l.toArray.size = n + tail.size)
  (N : Nat) (hN : a0.tmps.size = N) (hs' : ((List.range n).all fun j => decide (dstK l.toArray j < N)) = true) (hφ : ∀ k v w w', φ k v w → Below w.heap.size w w' → φ k v w') (hS : S w)
  (hstep : ∀ k o, k < n → l.toArray[k]? = some o → ∀ a w, S w → (∀ e ∈ o.after, Region.binds .any e = true → φ e.on (a.eval (.tmp (dstK l.toArray e.on))) w) → (∀ d, (∀ j, j < n → dstK l.toArray j ≠ d) → a.eval (.tmp d) = a0.eval (.tmp d)) →
   ∀ K' : Act → World → Prop, (∀ v w', φ k v w' → S w' → Below w.heap.size w w' → K' (a.put o.dst v) w') → o.wp P a w K' Q)
  (hend : ∀ vals w, S w → (∀ k, k < n → φ k (vals k) w) → wpAny P .any l.toArray Q m (Array.replicate n true ++ tail) (putsD ds 0 vals a0) w) :
  wpAny P .any l.toArray Q (m + n) listed a0 w := by
 subst hls
 have hend' : ∀ vals w, S w → (∀ k, k < n → φ k (vals k) w) → wpAny P .any l.toArray Q m (Array.replicate n true ++ tail) (puts l.toArray n (Array.replicate n true ++ tail) vals a0) w := by
  intro vals w h1 h2
  rw [puts_all n _ vals a0 (fun k hk => by
   have h1 : k < (Array.replicate n true ++ tail).size := by simp; omega
   simp only [Array.getD, h1, dif_pos]
   simp [hk]), hds]
  exact hend vals w h1 h2
 have hs : ∀ j, j < n → dstK l.toArray j < a0.tmps.size := by
  intro j hj
  have := List.all_eq_true.1 hs' j (List.mem_range.2 hj)
  rw [hN]
  simpa using this
 have h0 : ∀ k, k < n → (Array.replicate n false ++ tail).getD k false = false := by
  intro k hk
  have h1 : k < (Array.replicate n false ++ tail).size := by simp; omega
  simp only [Array.getD, h1, dif_pos]
  simp [hk]
 have hl : ∀ r, r ≤ n → left r (Array.replicate n false ++ tail) = r := by
  intro r hr
  induction r with
  | zero => rfl
  | succ r ih => rw [left_succ, ih (by omega), h0 r (by omega)]; simp
 have hpz : ∀ r, r ≤ n → puts l.toArray r (Array.replicate n false ++ tail) (fun _ => undef) a0 = a0 := by
  intro r hr
  induction r with
  | zero => rfl
  | succ r ih => rw [puts_succ, ih (by omega), h0 r (by omega)]; simp
 have := makers (P := P) (Q := Q) (S := S) (φ := φ) (a0 := a0) hp hsz hs hφ hstep hend' n (Array.replicate n false ++ tail) (fun _ => undef) w (hl n (Nat.le_refl _)) (by simp) (fun k hk hkt => by
  have h1 : k < (Array.replicate n false ++ tail).size := by simp; omega
  have h2 : k - n < tail.size := by omega
  simp only [Array.getD, h1, h2, dif_pos]
  simp [Array.getElem_append, show ¬ k < n by omega]) hS (fun k hk hkl => by rw [h0 k hk] at hkl; cases hkl)
 rw [hpz n (Nat.le_refl _)] at this
 exact this
end
end
section
open Go.RowKit
theorem single_any (id : Int) (w : World) :
  Calls Tryz.prog 50 #[.int .i64 id] w fun e w' => e = .returned (tk id 1 10 500 15 0) ∧ Below w.heap.size w w' := by
 go_enter Tryz.func50, Tryz.ntmps50
 go_wp2_with fail
 refine bodyPost_ret (v := tk id 1 10 500 15 0) (by simp [results, Tryz.results50, go_sem]) rfl ⟨rfl, ?_⟩
 repeat (first | with_reducible exact Below.refl _ _ | with_reducible refine Below.alloc ?_ (by simp) _ | with_reducible refine Below.setCell ?_ (by simp) _)
theorem tapsAt_one {w : World} {b : Nat} {p : TP} (h : jN w ⟨b, 0, none⟩ p) : zI w (some ⟨b, 0, none⟩) [p] := by
 intro i q hq
 match i, hq with
 | 0, hq =>
  simp at hq
  subst hq
  exact ⟨_, rfl, by simpa [Addr.add] using h⟩
 | i + 1, hq => simp at hq
end
end Go.Proofs.YtgidebfgcbkkkaaGreat
