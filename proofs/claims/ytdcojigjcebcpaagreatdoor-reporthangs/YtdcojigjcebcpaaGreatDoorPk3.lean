/-
  Texts joined: F9, Z9, J5, J6, J7, J8, Z10, RB7, O2, O6, Z17, RB8, RB9, C11, D1, C12, E12, D2, C7, C8, T8, T11, C9, M1, RB10, V7, V8, V9, RB11, Z11, Z18, Z21, RB12, RH1, F3, F2, F5, F7, F16, F10, F11, F15, H5, F19, Z35, V12, RH2.
-/
import Derived.BigRegion
import Derived.Lib.Strings
import Derived.Laws.Slices
import Derived.Laws.Concat
import Derived.Lib.QuietBelow
import Derived.BigQuiet
import Derived.WalkSmall
import Derived.Deep.CutRange
import Derived.Shelf.SlSortCmp.WholeK
import Derived.Test.YtdcojigjcebcpaaGreatDoorRows
import Derived.Deep.CutBlock
import Derived.Laws.OwnMore
import Derived.Shelf.SlSortCmp.NoneTotal
import Derived.Test.YtdcojigjcebcpaaGreatDoorPk2
set_option maxHeartbeats 12800000
set_option maxRecDepth 100000
namespace Go.Proofs.YtdcojigjcebcpaaGreatDoor
section
open Go.RowKit
def Off {α : Type} (o : Option Addr) (L : List α) (g : Nat) : Prop := ∀ A, o = some A → L ≠ [] → A.block ≠ g
theorem addr_blk (A : Addr) (n : Nat) : (A.add n).block = A.block := by unfold Addr.add; split <;> rfl
theorem LedV.of {w : World} {o1 o2 o3 : Option Addr} {n1 c1 n2 c2 n3 c3 : Nat} {T : List TK} {P : List TP} {V : List Int} (h1 : TiksV w (.slice o1 n1 c1) T) (h2 : yR w (.slice o2 n2 c2) P) (h3 : yQ w (.slice o3 n3 c3) V) :
  LedV w (lg o1 o2 o3 n1 c1 n2 c2 n3 c3) T P V := ⟨_, _, _, rfl, h1, h2, h3⟩
theorem yR.eqs {w : World} {o : Option Addr} {n c : Nat} {L : List TP} (h : yR w (.slice o n c) L) : n = L.length ∧ zD w o L ∧ L.length ≤ c ∧ (o = none → c = 0) := by
 obtain ⟨o', c', e, h1, h2, h3⟩ := h
 simp only [Value.slice.injEq] at e
 obtain ⟨rfl, rfl, rfl⟩ := e
 exact ⟨rfl, h1, h2, h3⟩
theorem TiksV.eqs {w : World} {o : Option Addr} {n c : Nat} {L : List TK} (h : TiksV w (.slice o n c) L) : n = L.length ∧ zH w o L ∧ L.length ≤ c ∧ (o = none → c = 0) := by
 obtain ⟨o', c', e, h1, h2, h3⟩ := h
 simp only [Value.slice.injEq] at e
 obtain ⟨rfl, rfl, rfl⟩ := e
 exact ⟨rfl, h1, h2, h3⟩
theorem yQ.eqs {w : World} {o : Option Addr} {n c : Nat} {L : List Int} (h : yQ w (.slice o n c) L) : n = L.length ∧ zF w o L ∧ L.length ≤ c ∧ (o = none → c = 0) := by
 obtain ⟨o', c', e, h1, h2, h3⟩ := h
 simp only [Value.slice.injEq] at e
 obtain ⟨rfl, rfl, rfl⟩ := e
 exact ⟨rfl, h1, h2, h3⟩
theorem Off.ne {α : Type} {o : Option Addr} {L : List α} {r : Option Nat} (ho : ∀ g, r = some g → Off o L g) {A : Addr} (h : o = some A) {i : Nat} {p : α} (hi : L[i]? = some p) (n : Nat) : some (A.add n).block ≠ r := by
 intro e
 exact ho _ e.symm A h (by intro h0; rw [h0] at hi; simp at hi) (addr_blk A n).symm
theorem yR.grown {w w' : World} {o : Option Addr} {n c : Nat} {L : List TP} {r : Option Nat} (h : yR w (.slice o n c) L) (hg : w.grownBy w' r) (ho : ∀ g, r = some g → Off o L g) : yR w' (.slice o n c) L := by
 obtain ⟨rfl, h1, h2⟩ := h.eqs
 refine ⟨o, c, rfl, fun i p hi => ?_, h2⟩
 obtain ⟨b, hb, c0, c1, c2, c3, c4⟩ := h1 i p hi
 have ne := Off.ne ho hb hi (i * 5)
 exact ⟨b, hb, hg.cell c0 ne, hg.cell c1 ne, hg.cell c2 ne, hg.cell c3 ne, hg.cell c4 ne⟩
theorem TiksV.grown {w w' : World} {o : Option Addr} {n c : Nat} {L : List TK} {r : Option Nat} (h : TiksV w (.slice o n c) L) (hg : w.grownBy w' r) (ho : ∀ g, r = some g → Off o L g) : TiksV w' (.slice o n c) L := by
 obtain ⟨rfl, h1, h2⟩ := h.eqs
 refine ⟨o, c, rfl, fun i p hi => ?_, h2⟩
 obtain ⟨b, hb, c0, c1, c2, c3, c4, c5⟩ := h1 i p hi
 have ne := Off.ne ho hb hi (i * 6)
 exact ⟨b, hb, hg.cell c0 ne, hg.cell c1 ne, hg.cell c2 ne, hg.cell c3 ne, hg.cell c4 ne, hg.cell c5 ne⟩
theorem yQ.grown {w w' : World} {o : Option Addr} {n c : Nat} {L : List Int} {r : Option Nat} (h : yQ w (.slice o n c) L) (hg : w.grownBy w' r) (ho : ∀ g, r = some g → Off o L g) : yQ w' (.slice o n c) L := by
 obtain ⟨rfl, h1, h2⟩ := h.eqs
 refine ⟨o, c, rfl, fun i p hi => ?_, h2⟩
 obtain ⟨b, hb, c0⟩ := h1 i p hi
 exact ⟨b, hb, hg.cell c0 (Off.ne ho hb hi i)⟩
theorem at_below {w w' : World} {b : Nat} {o : Obj} (h : w.heap[b]? = some o) (hb : Below w.heap.size w w') : w'.heap[b]? = some o := by
 rw [hb.block _ (Array.getElem?_eq_some_iff.1 h).1]
 exact h
end
section
open Go.RowKit
theorem VwsV.grown {w w' : World} {o : Option Addr} {n c : Nat} {L : List VW} {r : Option Nat} (h : VwsV w (.slice o n c) L) (hg : w.grownBy w' r) (ho : ∀ g, r = some g → Off o L g) : VwsV w' (.slice o n c) L := by
 obtain ⟨rfl, h1, h2⟩ := h.eqs
 refine ⟨o, c, rfl, fun i p hi => ?_, h2⟩
 obtain ⟨b, hb, c0, c1, c2⟩ := h1 i p hi
 have ne := Off.ne ho hb hi (i * 3)
 exact ⟨b, hb, hg.cell c0 ne, hg.cell c1 ne, hg.cell c2 ne⟩
structure KA where
 o1 : Option Addr
 c1 : Nat
 o2 : Option Addr
 c2 : Nat
 o3 : Option Addr
 c3 : Nat
 od : Option Addr
 cd : Nat
 cg : Nat
 ov : Option Addr
 cv : Nat
section
variable {w : World} {K Q B : Nat} {a : KA} {T : List TK} {P : List TP} {V : List Int} {dv : Int} {D : List Int} {G : List GT} {W : List VW}
theorem yJ {w : World} {b : Nat} {o : Obj} (h : w.heap[b]? = some o) {p : Addr} (hp : p.block ≠ b) (u : Value) : (w.setCell p u).heap[b]? = some o := by
 rw [heap_setCell_other w _ _ _ (fun e => hp e.symm)]
 exact h
theorem VwsV.ats {o : Option Addr} {c : Nat} {L : List VW} (h : VwsV w (.slice o L.length c) L) : zJ w o L := h.eqs.2.1
theorem TiksV.ats {o : Option Addr} {c : Nat} {L : List TK} (h : TiksV w (.slice o L.length c) L) : zH w o L := h.eqs.2.1
end
end
section
open Go.RowKit
end
section
open Go.RowKit
section
variable {w : World} {K Q B : Nat} {a : KA} {T : List TK} {P : List TP} {V : List Int} {dv : Int} {D : List Int} {G : List GT} {W : List VW}
theorem chkS_right (h : chkS T P V dv D G W = 0) : zQ T P V = 0 ∧ yY dv D = 0 ∧ G.length = 3 ∧ (∀ q g, G[q]? = some g → gateE dv P q g = 0) ∧ zO W = 0 ∧ W.length = 3 := by
 unfold chkS at h
 by_cases h1 : zQ T P V = 0
 ·rw [if_pos h1] at h
  by_cases h2 : yY dv D = 0
  ·rw [if_pos h2] at h
   by_cases h3 : yM dv P G = 0
   ·rw [if_pos h3] at h
    have hG : G.length = 3 := by
     by_cases hg : G.length = 3
     ·exact hg
     ·rw [yM, if_neg hg] at h3
      omega
    rw [yM, if_pos hG] at h3
    have hW : W.length = 3 := by
     by_cases hw : W.length = 3
     ·exact hw
     ·rw [zO, if_neg hw] at h
      omega
    refine ⟨h1, h2, hG, ?_, h, hW⟩
    have hz : ∀ (L : List GT) (n : Nat), gatesF dv P n L = 0 → ∀ q g, L[q]? = some g → gateE dv P (n + q) g = 0 := by
     intro L
     induction L with
     | nil => intro n _ q g hg; simp at hg
     | cons x L ih =>
      intro n hf q g hg
      rw [gatesF] at hf
      by_cases hx : gateE dv P n x = 0
      ·rw [if_pos hx] at hf
       match q, hg with
       | 0, hg => simp at hg; subst hg; exact hx
       | q + 1, hg =>
        have := ih (n + 1) hf q g (by simpa using hg)
        rwa [show n + 1 + q = n + (q + 1) by omega] at this
      ·rw [if_neg hx] at hf
       exact absurd hf hx
    intro q g hg
    have := hz G 0 h3 q g hg
    rwa [Nat.zero_add] at this
   ·rw [if_neg h3] at h
    exact absurd h h3
  ·rw [if_neg h2] at h
   exact absurd h h2
 ·rw [if_neg h1] at h
  exact absurd h h1
end
theorem LensOk.of {T : List TK} {P : List TP} {V : List Int} (h : zQ T P V = 0) : LensOk T P V := by
 obtain ⟨r1, r2, r3, -, -⟩ := zE h
 exact ⟨by omega, by omega, by omega⟩
end
section
open Go.RowKit
theorem LedV.at4 {w : World} {o1 o2 o3 : Option Addr} {n1 c1 n2 c2 n3 c3 : Nat} {T : List TK} {P : List TP} {V : List Int} (h : LedV w (lg o1 o2 o3 n1 c1 n2 c2 n3 c3) T P V) : zH w o1 T ∧ zD w o2 P ∧ zF w o3 V ∧ T.length ≤ c1 ∧ P.length ≤ c2 ∧ V.length ≤ c3 := by
 obtain ⟨v1, v2, v3, e, ⟨q1, p1, rfl, a1, a2, -⟩, ⟨q2, p2, rfl, b1, b2, -⟩, ⟨q3, p3, rfl, d1, d2, -⟩⟩ := h
 simp only [Value.agg.injEq, Array.mk.injEq, List.cons.injEq, Value.slice.injEq, and_true] at e
 obtain ⟨⟨rfl, -, rfl⟩, ⟨rfl, -, rfl⟩, rfl, -, rfl⟩ := e
 exact ⟨a1, b1, d1, a2, b2, d2⟩
def lineV (T : List TK) (P : List TP) (V : List Int) (id : Int) : List UInt8 × Int :=
 if zQ T P V ≠ 0 then ([], zQ T P V) else if idxT T id < 0 then ([], 5) else (yK (P.zip V) (T.getD (idxT T id).toNat tk0), 0)
theorem lineB_ne (X : List (TP × Int)) (x : TK) : yK X x ≠ [] := by
 unfold yK headB
 simp
def perB (X : List (TP × Int)) (D : List Int) (x : TK) : List UInt8 := yK X x ++ ((if hasI D x.i = true then [33] else []) ++ [10])
def zI (X : List (TP × Int)) (D : List Int) (T : List TK) : List UInt8 := T.flatMap (perB X D)
def topB (W : List VW) : List UInt8 := [108, 101, 97, 100, 101, 114, 32] ++ (leadB W ++ [10])
def textV (T : List TK) (P : List TP) (V : List Int) (dv : Int) (D : List Int) (G : List GT) (W : List VW) : List UInt8 × Int :=
 if chkS T P V dv D G W ≠ 0 then ([], chkS T P V dv D G W) else (topB W ++ zI (P.zip V) D T, 0)
theorem textsB_snoc (X : List (TP × Int)) (D : List Int) (T : List TK) (x : TK) : zI X D (T ++ [x]) = zI X D T ++ perB X D x := by
 simp [zI, List.flatMap_append]
theorem textsB_len {T : List TK} {P : List TP} {V : List Int} (h : zQ T P V = 0) (D : List Int) : ∀ (L : List TK), (∀ x ∈ L, x ∈ T) → (zI (P.zip V) D L).length ≤ L.length * 3002
 | [], _ => by simp [zI]
 | x :: L, hL => by
  have ih := textsB_len h D L (fun y hy => hL y (List.mem_cons_of_mem _ hy))
  have h1 := lineB_len h (hL x (List.mem_cons_self ..))
  have e : zI (P.zip V) D (x :: L) = perB (P.zip V) D x ++ zI (P.zip V) D L := by simp [zI]
  rw [e]
  unfold perB
  split <;> simp only [List.length_append, List.length_cons, List.length_nil] <;> omega
theorem line_any (T : List TK) (P : List TP) (V : List Int) (id : Int) (o1 o2 o3 : Option Addr) (c1 c2 c3 : Nat) (w : World) (hI : ItoaOk w) (hT : zH w o1 T) (hP : zD w o2 P) (hV : zF w o3 V) (hlT : T.length ≤ 9223372036854775807) (hlP : P.length ≤ 9223372036854775807) (hlV : V.length ≤ 9223372036854775807)
  (hc2 : P.length ≤ c2) (hc3 : V.length ≤ c3) :
  Calls Tryz.prog 5 #[lg o1 o2 o3 T.length c1 P.length c2 V.length c3, .int .i64 id] w fun e w' => e = .returned (.tuple #[.string ⟨(lineV T P V id).1.toArray⟩, .int .i64 (lineV T P V id).2]) ∧ Below w.heap.size w w' := by
 have HC := zA (fun W (h : Below w.heap.size w W) => checkLed_any T P V o1 o2 o3 c1 c2 c3 W (hT.below h) (hP.below h) (hV.below h) hlT hlP hlV hc2 hc3)
 have HX := zA (fun W (h : Below w.heap.size w W) (B : Nat) (hc) => indexLine_any B id T o1 c1 W (hT.below h) hlT hc)
 have HTa := zA (fun W (h : Below w.heap.size w W) => hT.below h)
 obtain ⟨R, hR⟩ : ∃ R, R = lineV T P V id := ⟨_, rfl⟩
 have F1 : Hid (zQ T P V ≠ 0 → R = ([], zQ T P V)) := zA (fun h => by rw [hR, lineV, if_pos h])
 have F2 : Hid (zQ T P V = 0 → idxT T id < 0 → R = ([], 5)) := zA (fun h h2 => by rw [hR, lineV, if_neg (by simp [h]), if_pos h2])
 have F3 : Hid (zQ T P V = 0 → ∀ (k : Nat) (x : TK), idxT T id = k → T[k]? = some x → R = (yK (P.zip V) x, 0)) := zA (fun h k x h2 h3 => by
  have e1 : (idxT T id).toNat = k := by omega
  have e2 : T.getD k tk0 = x := by rw [List.getD_eq_getElem?_getD, h3]; rfl
  rw [hR, lineV, if_neg (by simp [h]), if_neg (by omega), e1, e2])
 have HPt := zA (fun (h0 : zQ T P V = 0) (x : TK) (hx : x ∈ T) (b : Nat) (l : List UInt8) (W : World) (hb : Below w.heap.size w W) (hW) (hl) => putTicket_any T P V o1 o2 o3 c1 c2 c3 x b l w W hI hT hP hV h0 hc2 hc3 hx hb hW hl)
 rw [← hR]
 clear hR hI hT hP hV hc2 hc3
 have HG0 := zA (((zM.nil w).more (.cells #[.slice o1 T.length c1, .slice o2 P.length c2, .slice o3 V.length c3] 26) (by simp)).more (.cells #[.int .i64 id] 3) (by simp))
 have HB0 := zA HG0.out.2.2
 have ci : ((w.alloc (.cells #[.slice o1 T.length c1, .slice o2 P.length c2, .slice o3 V.length c3] 26)).alloc (.cells #[.int .i64 id] 3)).cell? ⟨w.heap.size + 1, 0, none⟩ = some (.int .i64 id) := HG0.out.cell 1 0 _ _ _ _ rfl rfl rfl
 have cs0 : ((w.alloc (.cells #[.slice o1 T.length c1, .slice o2 P.length c2, .slice o3 V.length c3] 26)).alloc (.cells #[.int .i64 id] 3)).cell? ⟨w.heap.size, 0, none⟩ = some (.slice o1 T.length c1) := HG0.out.cell 0 0 _ _ _ _ rfl rfl rfl
 have cs1 : ((w.alloc (.cells #[.slice o1 T.length c1, .slice o2 P.length c2, .slice o3 V.length c3] 26)).alloc (.cells #[.int .i64 id] 3)).cell? ⟨w.heap.size, 1, none⟩ = some (.slice o2 P.length c2) := HG0.out.cell 0 1 _ _ _ _ rfl rfl rfl
 have cs2 : ((w.alloc (.cells #[.slice o1 T.length c1, .slice o2 P.length c2, .slice o3 V.length c3] 26)).alloc (.cells #[.int .i64 id] 3)).cell? ⟨w.heap.size, 2, none⟩ = some (.slice o3 V.length c3) := HG0.out.cell 0 2 _ _ _ _ rfl rfl rfl
 go_enter Tryz.func5, Tryz.ntmps5
 go_wp2_with fail
 clear ci cs0 cs1 cs2
 generalize (w.alloc (.cells #[.slice o1 T.length c1, .slice o2 P.length c2, .slice o3 V.length c3] 26)).alloc (.cells #[.int .i64 id] 3) = w1 at *
 refine (HC.out w1 HB0.out).mono ?_
 rintro e w2 ⟨rfl, hb⟩
 have HG := zA (HG0.out.on hb)
 have HB := zA HG.out.2.2
 have hs1 := HB0.out.size
 clear hb HG0 HB0 hs1
 rcases hL : (zQ T P V != 0) with _ | _
 ·have hL0 : zQ T P V = 0 := by simpa using hL
  have HL0 := zA hL0
  rw [hL0]
  clear hL hL0 F1 HC
  have ci : w2.cell? ⟨w.heap.size + 1, 0, none⟩ = some (.int .i64 id) := HG.out.cell 1 0 _ _ _ _ rfl rfl rfl
  have cs0 : w2.cell? ⟨w.heap.size, 0, none⟩ = some (.slice o1 T.length c1) := HG.out.cell 0 0 _ _ _ _ rfl rfl rfl
  go_wp2_with fail
  refine (HX.out w2 HB.out (w.heap.size + 1) ci).mono ?_
  rintro e w3 ⟨rfl, hb⟩
  have HG3 := zA (HG.out.on hb)
  have HB3 := zA HG3.out.2.2
  clear hb HG HB HX ci cs0
  by_cases hi : idxT T id < 0
  ·have HR := zA (F2.out HL0.out hi)
   clear F2 F3
   go_wp2_with fail
   go_ret2
   exact ⟨by rw [HR.out]; rfl, HB3.out⟩
  ·obtain ⟨k, x, e1, e2⟩ := idxT_get hi
   have HR := zA (F3.out HL0.out k x e1 e2)
   have HM := zA (List.mem_of_getElem? e2)
   have hkl : k < T.length := (List.getElem?_eq_some_iff.1 e2).1
   clear F2 F3 hi
   rw [e1]
   obtain ⟨A, rfl, t0, t1, t2, t3, t4, t5⟩ := HTa.out w3 HB3.out k x e2
   have HE2 := zA e2
   clear e1 e2
   have cs0 : w3.cell? ⟨w.heap.size, 0, none⟩ = some (.slice (some A) T.length c1) := HG3.out.cell 0 0 _ _ _ _ rfl rfl rfl
   have cs1 : w3.cell? ⟨w.heap.size, 1, none⟩ = some (.slice o2 P.length c2) := HG3.out.cell 0 1 _ _ _ _ rfl rfl rfl
   have cs2 : w3.cell? ⟨w.heap.size, 2, none⟩ = some (.slice o3 V.length c3) := HG3.out.cell 0 2 _ _ _ _ rfl rfl rfl
   have hs3 := HB3.out.size
   have hba := (Below.refl w3.heap.size w3).alloc (Nat.le_refl _) (.cells #[.slice (some A) T.length c1, .slice o2 P.length c2, .slice o3 V.length c3, .pointer none, .slice none 0 0] 58)
   have q0 : (w3.alloc (.cells #[.slice (some A) T.length c1, .slice o2 P.length c2, .slice o3 V.length c3, .pointer none, .slice none 0 0] 58)).cell? ⟨w.heap.size, 0, none⟩ = some (.slice (some A) T.length c1) := (hba.cell (World.block_lt_of_cell? w3 _ cs0)).trans cs0
   have u0 := (hba.cell (World.block_lt_of_cell? w3 _ t0)).trans t0
   have u1 := (hba.cell (World.block_lt_of_cell? w3 _ t1)).trans t1
   have u2 := (hba.cell (World.block_lt_of_cell? w3 _ t2)).trans t2
   have u3 := (hba.cell (World.block_lt_of_cell? w3 _ t3)).trans t3
   have u4 := (hba.cell (World.block_lt_of_cell? w3 _ t4)).trans t4
   have u5 := (hba.cell (World.block_lt_of_cell? w3 _ t5)).trans t5
   have HBa := zA (HB3.out.trans (hba.mono hs3))
   have HWa : Hid (Wr w.heap.size (w3.alloc (.cells #[.slice (some A) T.length c1, .slice o2 P.length c2, .slice o3 V.length c3, .pointer none, .slice none 0 0] 58)) w3.heap.size (.slice (some A) T.length c1) (.slice o2 P.length c2) (.slice o3 V.length c3) []) := zA ⟨hs3, _, _, .inl rfl, heap_alloc_new w3 _, World.ownsRow_nil _ _ _ _⟩
   go_wp2_with fail
   clear t0 t1 t2 t3 t4 t5 u0 u1 u2 u3 u4 u5 q0 hba cs0 cs1 cs2
   refine (HPt.out HL0.out x HM.out w3.heap.size [] _ HBa.out HWa.out (by simp)).mono ?_
   rintro e w4 ⟨rfl, h1, h2⟩
   have HB4 := zA (HBa.out.trans h2.bl)
   have HW4 : Hid (Wr w.heap.size w4 w3.heap.size (.slice (some A) T.length c1) (.slice o2 P.length c2) (.slice o3 V.length c3) (yK (P.zip V) x)) := zA (by simpa using h1)
   clear h1 h2 HBa HWa HPt HG3
   go_wp2_with fail
   refine (string_any w.heap.size w3.heap.size _ _ _ _ w4 HW4.out (lineB_ne _ _)).mono ?_
   rintro e w5 ⟨rfl, hb⟩
   have HB5 := zA (HB4.out.trans hb)
   clear hb HB4 HW4
   go_wp2_with fail
   go_ret2
   exact ⟨by rw [HR.out]; rfl, HB5.out⟩
 ·have hL0 : zQ T P V ≠ 0 := by simpa using hL
  have HR := zA (F1.out hL0)
  clear F1 F2 F3 hL0
  go_wp2_with fail
  go_ret2
  exact ⟨by rw [HR.out]; rfl, HB.out⟩
#print axioms line_any
end
section
open Go.ChangeShapes Go.WideShapes Go.ChangeAt Go.RowKit Go.Deep
section
variable {H : Type} {enc : TypeId × Value → H}
end
end
section
open Go.ChangeShapes Go.WideShapes Go.ChangeAt Go.RowKit Go.Deep
theorem cellsSta : Tryz.prog.cellsOf 32 = 7 := by kernel_rfl
theorem cellsGts : Tryz.prog.cellsOf 29 = 1 := by kernel_rfl
theorem cellsVws : Tryz.prog.cellsOf 30 = 1 := by kernel_rfl
section
variable {H : Type} {enc : TypeId × Value → H}
theorem gate_of {W : World} {base fuel : Nat} {sp : Nat → Bool} {hd : Bool} {cs : List Value} {x : DataW H × List MemPlace} (hsz : cs.length = 8) (h : DataW.trod enc Tryz.prog W base sp hd fuel 47 cs = some x) :
  ∃ g : GT, cs = g.cells ∧ TapsOk W g.oa g.A g.ca ∧ IntsOk W g.od g.D g.cd := by
 match cs, hsz with
 | [d0, d1, d2, d3, d4, d5, d6, d7], _ =>
 obtain ⟨xs, m, _, hx, hl, hlen, hfs⟩ := DataW.trod_struct Tryz.underlying47 h
 match xs, hlen with
 | [y0, y1, y2, y3, y4, y5], _ =>
 have g0 := hfs 0 _ rfl
 have g1 := hfs 1 _ rfl
 have g2 := hfs 2 _ rfl
 have g3 := hfs 3 _ rfl
 have g4 := hfs 4 _ rfl
 have g5 := hfs 5 _ rfl
 simp [cells3', cells30, cellsDen, cellsBud] at g0 g1 g2 g3 g4 g5
 obtain ⟨k0, e0, -⟩ := DataW.trod_int Tryz.underlying3 g0
 obtain ⟨k1, e1, -⟩ := DataW.trod_int Tryz.underlying3 g1
 obtain ⟨k2, e2, -⟩ := DataW.trod_int Tryz.underlying3 g2
 obtain ⟨oa, La, ca, e3, ha⟩ := taps_ofV g3
 obtain ⟨n, od, Ld, cd, e4, hd⟩ := den_of rfl g4
 obtain ⟨xs', m', _, hx', hl', hlen', hfs'⟩ := DataW.trod_struct Tryz.underlying45 g5
 match xs', hlen' with
 | [z0, z1], _ =>
 have f0 := hfs' 0 _ rfl
 have f1 := hfs' 1 _ rfl
 simp [cells3'] at f0 f1
 obtain ⟨k6, e6, -⟩ := DataW.trod_int Tryz.underlying3 f0
 obtain ⟨k7, e7, -⟩ := DataW.trod_int Tryz.underlying3 f1
 simp only [List.cons.injEq, and_true] at e0 e1 e2 e3 e4 e6 e7
 obtain ⟨e4, e5⟩ := e4
 subst e0 e1 e2 e3 e4 e5 e6 e7
 exact ⟨⟨_, _, _, _, _, _, _, _, _, _, _, _⟩, rfl, ha, hd⟩
theorem gates_ofV {W : World} {base fuel : Nat} {sp : Nat → Bool} {hd : Bool} {cs : List Value} {x : DataW H × List MemPlace} (h : DataW.trod enc Tryz.prog W base sp hd fuel 29 cs = some x) :
  ∃ (o : Option Addr) (L : List GT) (cap : Nat), cs = [.slice o L.length cap] ∧ zV W o L ∧ GatesOk L ∧ L.length ≤ 9223372036854775807 ∧ L.length ≤ cap ∧ (o = none → cap = 0) := by
 rcases open_slice Tryz.underlying29 h with ⟨rfl, -⟩ | ⟨a, len, cap, m, n, D, Pl, rfl, hb, hl, hm, hmm, -, hx⟩
 ·exact ⟨none, [], 0, rfl, fun i p h => by simp at h, fun g h => by simp at h, by simp, by simp, fun _ => rfl⟩
 ·rw [cellsGate] at hx
  have hle : len ≤ m := by rw [hmm]; split <;> omega
  have hT : ∀ i, i < len → ∃ g : GT, Gt8 W (a.add (i * 8)) g ∧ TapsOk W g.oa g.A g.ca ∧ IntsOk W g.od g.D g.cd := by
   intro i hi
   obtain ⟨cs', h1, h2⟩ := hx i (by omega)
   obtain ⟨_, hlen, hc⟩ := World.cells?_some h1
   obtain ⟨g, rfl, hA, hD⟩ := gate_of hlen h2
   refine ⟨g, ⟨?_, ?_, ?_, ?_, ?_, ?_, ?_, ?_⟩, hA, hD⟩
   ·simpa [Addr.add, GT.cells] using hc 0 (by omega)
   ·simpa [Addr.add, GT.cells] using hc 1 (by omega)
   ·simpa [Addr.add, GT.cells] using hc 2 (by omega)
   ·simpa [Addr.add, GT.cells] using hc 3 (by omega)
   ·simpa [Addr.add, GT.cells] using hc 4 (by omega)
   ·simpa [Addr.add, GT.cells] using hc 5 (by omega)
   ·simpa [Addr.add, GT.cells] using hc 6 (by omega)
   ·simpa [Addr.add, GT.cells] using hc 7 (by omega)
  haveI : Inhabited GT := ⟨⟨0, 0, 0, none, [], 0, 0, none, [], 0, 0, 0⟩⟩
  obtain ⟨F, hF⟩ := choose_lt hT
  refine ⟨some a, (List.range len).map F, cap, by simp, ?_, ?_, ?_, by simpa using hl, fun h => by cases h⟩
  ·intro i p hi
   rw [List.getElem?_map, Option.map_eq_some_iff] at hi
   obtain ⟨j, hj, rfl⟩ := hi
   obtain ⟨hlt, rfl⟩ : i < len ∧ i = j := by simpa using List.getElem?_eq_some_iff.1 hj
   obtain ⟨h8, ⟨a1, -, a2, a3⟩, ⟨b1, -, b2, b3⟩⟩ := hF i hlt
   exact ⟨a, rfl, h8, ⟨_, _, rfl, a1, a2, a3⟩, ⟨_, _, rfl, b1, b2, b3⟩⟩
  ·intro g hg
   simp only [List.mem_map, List.mem_range] at hg
   obtain ⟨i, hi, rfl⟩ := hg
   obtain ⟨-, ⟨-, a2, -⟩, ⟨-, b2, -⟩⟩ := hF i hi
   exact ⟨a2, b2⟩
  ·have : maxLen = 9223372036854775807 := rfl
   simp
   omega
structure StW (W : World) (o1 o2 o3 : Option Addr) (c1 c2 c3 : Nat) (T : List TK) (P : List TP) (V : List Int) (od : Option Addr) (cd : Nat) (D : List Int) (og : Option Addr) (cg : Nat) (G : List GT) (ov : Option Addr) (cv : Nat) (L : List VW) : Prop where
 led : LedV W (lg o1 o2 o3 T.length c1 P.length c2 V.length c3) T P V
 lok : LensOk T P V
 den : IntsOk W od D cd
 gts : zV W og G
 gok : GatesOk G
 gle : G.length ≤ cg
 gno : og = none → cg = 0
 gln : G.length ≤ 9223372036854775807
 vws : zJ W ov L
 vle : L.length ≤ cv
 vno : ov = none → cv = 0
 vln : L.length ≤ 9223372036854775807
theorem open_station {W : World} {base : Nat} {sp : Nat → Bool} {v : Value} {d : DataW H} {p : List MemPlace} (hval : Value.okWide Tryz.prog W .any base 32 v) (h : DataW.Trod enc Tryz.prog W 0 sp true 32 v d p) :
  ∃ (o1 o2 o3 : Option Addr) (c1 c2 c3 : Nat) (T : List TK) (P : List TP) (V : List Int) (dv : Int) (od : Option Addr) (cd : Nat) (D : List Int) (og : Option Addr) (cg : Nat) (G : List GT) (ov : Option Addr) (cv : Nat) (L : List VW),
   v = stV o1 o2 o3 T.length c1 P.length c2 V.length c3 dv od D.length cd og G.length cg ov L.length cv ∧ StW W o1 o2 o3 c1 c2 c3 T P V od cd D og cg G ov cv L := by
 obtain ⟨cs, rfl, hsz⟩ := okWide_struct Tryz.underlying32 hval
 rw [cellsSta] at hsz
 obtain ⟨l⟩ := cs
 obtain ⟨fuel, hf⟩ := h
 match l, hsz with
 | [d0, d1, d2, d3, d4, d5, d6], _ =>
 obtain ⟨xs, n, _, hx, hl, hlen, hfs⟩ := DataW.trod_struct Tryz.underlying32 hf
 match xs, hlen with
 | [y0, y1, y2, y3], _ =>
 have g0 := hfs 0 _ rfl
 have g1 := hfs 1 _ rfl
 have g2 := hfs 2 _ rfl
 have g3 := hfs 3 _ rfl
 simp [Value.cells, cells43, cellsDen, cellsGts, cellsVws] at g0 g1 g2 g3
 obtain ⟨xs', n', _, hx', hl', hlen', hfs'⟩ := DataW.trod_struct Tryz.underlying26 g0
 match xs', hlen' with
 | [z0, z1, z2], _ =>
 have f0 := hfs' 0 _ rfl
 have f1 := hfs' 1 _ rfl
 have f2 := hfs' 2 _ rfl
 simp [cells30, cells40, cells41] at f0 f1 f2
 obtain ⟨o1, T, c1, e1, t1, t2, t3, t4⟩ := tiks_ofV f0
 obtain ⟨o2, P, c2, e2, l1, l2, l3, l4⟩ := taps_ofV f1
 obtain ⟨o3, V, c3, e3, v1, v2, v3, v4⟩ := ints_ofV f2
 obtain ⟨dv, od, D, cd, e4, hd⟩ := den_of rfl g1
 obtain ⟨og, G, cg, e6, hG, hok, m1, m2, m3⟩ := gates_ofV g2
 obtain ⟨ov, L, cv, e7, hV, u1, u2, u3⟩ := vws_ofV g3
 simp only [List.cons.injEq, and_true] at e1 e2 e3 e4 e6 e7
 obtain ⟨e4, e5⟩ := e4
 subst e1 e2 e3 e4 e5 e6 e7
 exact ⟨o1, o2, o3, c1, c2, c3, T, P, V, dv, od, cd, D, og, cg, G, ov, cv, L, rfl, ⟨⟨_, _, _, rfl, ⟨o1, c1, rfl, t1, t3, t4⟩, ⟨o2, c2, rfl, l1, l3, l4⟩, ⟨o3, c3, rfl, v1, v3, v4⟩⟩, ⟨t2, l2, v2⟩, hd, hG, hok, m2, m3, m1, hV, u2, u3, u1⟩⟩
end
end
section
open Go.RowKit
theorem StW.below {w w' : World} {o1 o2 o3 od og ov : Option Addr} {c1 c2 c3 cd cg cv : Nat} {T : List TK} {P : List TP} {V D : List Int} {G : List GT} {L : List VW} (h : StW w o1 o2 o3 c1 c2 c3 T P V od cd D og cg G ov cv L) (hb : Below w.heap.size w w') : StW w' o1 o2 o3 c1 c2 c3 T P V od cd D og cg G ov cv L :=
 ⟨h.led.below hb, h.lok, ⟨h.den.1.below hb, h.den.2⟩, h.gts.below hb, h.gok, h.gle, h.gno, h.gln, h.vws.below hb, h.vle, h.vno, h.vln⟩
theorem text_any (T : List TK) (P : List TP) (V : List Int) (dv : Int) (D : List Int) (G : List GT) (W : List VW) (o1 o2 o3 od og ov : Option Addr) (c1 c2 c3 cd cg cv : Nat) (w : World) (hI : ItoaOk w) (hs : StW w o1 o2 o3 c1 c2 c3 T P V od cd D og cg G ov cv W) :
  Calls Tryz.prog 6 #[stV o1 o2 o3 T.length c1 P.length c2 V.length c3 dv od D.length cd og G.length cg ov W.length cv] w fun e w' => e = .returned (.tuple #[.string ⟨(textV T P V dv D G W).1.toArray⟩, .int .i64 (textV T P V dv D G W).2]) ∧ Below w.heap.size w w' := by
 have hat := hs.led.at4
 have HC := zA (fun X (h : Below w.heap.size w X) => (by
  have h' := hs.below h
  exact stationCheck_any T P V dv D G W o1 o2 o3 od og ov c1 c2 c3 cd cg cv X h'.led h'.lok h'.den.1 h'.den.2.1 h'.gts h'.gok h'.vws h'.vln : Calls Tryz.prog 19 #[stV o1 o2 o3 T.length c1 P.length c2 V.length c3 dv od D.length cd og G.length cg ov W.length cv] X fun e w' => e = .returned (.int .i64 (chkS T P V dv D G W)) ∧ Below X.heap.size X w'))
 have HTa := zA (fun X (h : Below w.heap.size w X) => hat.1.below h)
 have HDn := zA (fun X (h : Below w.heap.size w X) (id : Int) => contains_any D id od cd X (hs.den.1.below h) hs.den.2.1)
 have HPt := zA (fun (h0 : zQ T P V = 0) (x : TK) (hx : x ∈ T) (b : Nat) (l : List UInt8) (X : World) (hb : Below w.heap.size w X) (hW) (hl) => putTicket_any T P V o1 o2 o3 c1 c2 c3 x b l w X hI hat.1 hat.2.1 hat.2.2.1 h0 hat.2.2.2.2.1 hat.2.2.2.2.2 hx hb hW hl)
 have HLd := zA (fun (h0 : zO W = 0) X (h : Below w.heap.size w X) => leader_any ov cv W X (hI.on h) (hs.vws.below h) h0)
 obtain ⟨R, hR⟩ : ∃ R, R = textV T P V dv D G W := ⟨_, rfl⟩
 have F1 : Hid (chkS T P V dv D G W ≠ 0 → R = ([], chkS T P V dv D G W)) := zA (fun h => by rw [hR, textV, if_pos h])
 have F2 : Hid (chkS T P V dv D G W = 0 → R = (topB W ++ zI (P.zip V) D T, 0)) := zA (fun h => by rw [hR, textV, if_neg (by simp [h])])
 rw [← hR]
 have hlt := hs.lok.1
 clear hR hI hs hat
 have HG0 := zA ((zM.nil w).more (.cells #[.slice o1 T.length c1, .slice o2 P.length c2, .slice o3 V.length c3, .int .i64 dv, .slice od D.length cd, .slice og G.length cg, .slice ov W.length cv] 32) (by simp))
 have HB0 := zA HG0.out.2.2
 have cs0 : (w.alloc (.cells #[.slice o1 T.length c1, .slice o2 P.length c2, .slice o3 V.length c3, .int .i64 dv, .slice od D.length cd, .slice og G.length cg, .slice ov W.length cv] 32)).cell? ⟨w.heap.size, 0, none⟩ = some (.slice o1 T.length c1) := HG0.out.cell 0 0 _ _ _ _ rfl rfl rfl
 have cs1 : (w.alloc (.cells #[.slice o1 T.length c1, .slice o2 P.length c2, .slice o3 V.length c3, .int .i64 dv, .slice od D.length cd, .slice og G.length cg, .slice ov W.length cv] 32)).cell? ⟨w.heap.size, 1, none⟩ = some (.slice o2 P.length c2) := HG0.out.cell 0 1 _ _ _ _ rfl rfl rfl
 have cs2 : (w.alloc (.cells #[.slice o1 T.length c1, .slice o2 P.length c2, .slice o3 V.length c3, .int .i64 dv, .slice od D.length cd, .slice og G.length cg, .slice ov W.length cv] 32)).cell? ⟨w.heap.size, 2, none⟩ = some (.slice o3 V.length c3) := HG0.out.cell 0 2 _ _ _ _ rfl rfl rfl
 have cs3 : (w.alloc (.cells #[.slice o1 T.length c1, .slice o2 P.length c2, .slice o3 V.length c3, .int .i64 dv, .slice od D.length cd, .slice og G.length cg, .slice ov W.length cv] 32)).cell? ⟨w.heap.size, 3, none⟩ = some (.int .i64 dv) := HG0.out.cell 0 3 _ _ _ _ rfl rfl rfl
 have cs4 : (w.alloc (.cells #[.slice o1 T.length c1, .slice o2 P.length c2, .slice o3 V.length c3, .int .i64 dv, .slice od D.length cd, .slice og G.length cg, .slice ov W.length cv] 32)).cell? ⟨w.heap.size, 4, none⟩ = some (.slice od D.length cd) := HG0.out.cell 0 4 _ _ _ _ rfl rfl rfl
 have cs5 : (w.alloc (.cells #[.slice o1 T.length c1, .slice o2 P.length c2, .slice o3 V.length c3, .int .i64 dv, .slice od D.length cd, .slice og G.length cg, .slice ov W.length cv] 32)).cell? ⟨w.heap.size, 5, none⟩ = some (.slice og G.length cg) := HG0.out.cell 0 5 _ _ _ _ rfl rfl rfl
 have cs6 : (w.alloc (.cells #[.slice o1 T.length c1, .slice o2 P.length c2, .slice o3 V.length c3, .int .i64 dv, .slice od D.length cd, .slice og G.length cg, .slice ov W.length cv] 32)).cell? ⟨w.heap.size, 6, none⟩ = some (.slice ov W.length cv) := HG0.out.cell 0 6 _ _ _ _ rfl rfl rfl
 go_enter Tryz.func6, Tryz.ntmps6
 go_wp2_with fail
 clear cs0 cs1 cs2 cs3 cs4 cs5 cs6
 generalize w.alloc (.cells #[.slice o1 T.length c1, .slice o2 P.length c2, .slice o3 V.length c3, .int .i64 dv, .slice od D.length cd, .slice og G.length cg, .slice ov W.length cv] 32) = w1 at *
 refine (HC.out w1 HB0.out).mono ?_
 rintro e w2 ⟨rfl, hb⟩
 have HG := zA (HG0.out.on hb)
 have HB := zA HG.out.2.2
 clear hb HG0 HB0 HC
 rcases hL : (chkS T P V dv D G W != 0) with _ | _
 ·have hL0 : chkS T P V dv D G W = 0 := by simpa using hL
  have hr := chkS_right hL0
  have HL0 := zA hr.1
  have HW0 := zA hr.2.2.2.2.1
  have HR := zA (F2.out hL0)
  have hl12 : T.length ≤ 12 := (zE hr.1).1
  have HTl := zA (fun q => textsB_len hr.1 D (T.take q) (fun y hy => List.mem_of_mem_take hy))
  have htop : (topB W).length ≤ 30 := by
   have := leadB_len hr.2.2.2.2.1
   unfold topB
   simp only [List.length_append, List.length_cons, List.length_nil]
   omega
  have htb : Hid (topB W = [[108, 101, 97, 100, 101, 114, 32], leadB W, [10]].flatten) := zA (by unfold topB; simp)
  have hldl := leadB_len hr.2.2.2.2.1
  rw [hL0]
  clear hL hL0 hr F1 F2
  have hs2 := HB.out.size
  have hS2 : w2.heap[w.heap.size]? = some (.cells #[.slice o1 T.length c1, .slice o2 P.length c2, .slice o3 V.length c3, .int .i64 dv, .slice od D.length cd, .slice og G.length cg, .slice ov W.length cv] 32 (0, 0)) := HG.out.1 0 _ rfl
  have cs0 : w2.cell? ⟨w.heap.size, 0, none⟩ = some (.slice o1 T.length c1) := HG.out.cell 0 0 _ _ _ _ rfl rfl rfl
  have cs1 : w2.cell? ⟨w.heap.size, 1, none⟩ = some (.slice o2 P.length c2) := HG.out.cell 0 1 _ _ _ _ rfl rfl rfl
  have cs2 : w2.cell? ⟨w.heap.size, 2, none⟩ = some (.slice o3 V.length c3) := HG.out.cell 0 2 _ _ _ _ rfl rfl rfl
  have cs6 : w2.cell? ⟨w.heap.size, 6, none⟩ = some (.slice ov W.length cv) := HG.out.cell 0 6 _ _ _ _ rfl rfl rfl
  have hba := (Below.refl w2.heap.size w2).alloc (Nat.le_refl _) (.cells #[.slice o1 T.length c1, .slice o2 P.length c2, .slice o3 V.length c3, .pointer none, .slice none 0 0] 58)
  have qs6 : (w2.alloc (.cells #[.slice o1 T.length c1, .slice o2 P.length c2, .slice o3 V.length c3, .pointer none, .slice none 0 0] 58)).cell? ⟨w.heap.size, 6, none⟩ = some (.slice ov W.length cv) := (hba.cell (World.block_lt_of_cell? w2 _ cs6)).trans cs6
  have HBa := zA (HB.out.trans (hba.mono hs2))
  have HWa : Hid (Wr w.heap.size (w2.alloc (.cells #[.slice o1 T.length c1, .slice o2 P.length c2, .slice o3 V.length c3, .pointer none, .slice none 0 0] 58)) w2.heap.size (.slice o1 T.length c1) (.slice o2 P.length c2) (.slice o3 V.length c3) []) := zA ⟨hs2, _, _, .inl rfl, heap_alloc_new w2 _, World.ownsRow_nil _ _ _ _⟩
  have HSa := zA ((hba.block _ (zK hS2)).trans hS2)
  have lb : w.heap.size < w2.heap.size := zK hS2
  go_wp2_with fail
  clear cs0 cs1 cs2 cs6 qs6 hba hS2 HG HB
  generalize w2.alloc (.cells #[.slice o1 T.length c1, .slice o2 P.length c2, .slice o3 V.length c3, .pointer none, .slice none 0 0] 58) = w3 at *
  refine (HLd.out HW0.out w3 HBa.out).mono ?_
  rintro e w4 ⟨rfl, hb⟩
  have hs3 := HBa.out.size
  have HF4 := zA (Fr.mk (b := w2.heap.size) (HBa.out.trans (hb.mono hs3)) (kept_below (HBa.out.trans (hb.mono hs3))))
  have HW4 := zA (HWa.out.below hb)
  have HS4 := zA ((hb.block _ (zK HSa.out)).trans HSa.out)
  clear hb HBa HWa HSa hs3
  generalize w2.heap.size = b at *
  have hs4 : w.heap.size ≤ w4.heap.size := HF4.out.bl.size
  have hll : ([] : List UInt8).length + [[108, 101, 97, 100, 101, 114, 32], leadB W, [10]].flatten.length ≤ 1000000 := by simp; omega
  generalize leadB W = lb' at *
  go_wp2_with fail
  refine (put_new w.heap.size b _ _ _ [] [[108, 101, 97, 100, 101, 114, 32], lb', [10]] _ rfl 3 rfl (by decide) w4 HW4.out hs4 hll).mono ?_
  rintro e w5 ⟨rfl, h1, h2⟩
  have HW5 : Hid (Wr w.heap.size w5 b (.slice o1 T.length c1) (.slice o2 P.length c2) (.slice o3 V.length c3) (topB W)) := by rw [htb.out]; simpa using zA h1
  have HF5 := zA (HF4.out.trans h2)
  have HS5 : Hid (w5.heap[w.heap.size]? = some (.cells #[.slice o1 T.length c1, .slice o2 P.length c2, .slice o3 V.length c3, .int .i64 dv, .slice od D.length cd, .slice og G.length cg, .slice ov W.length cv] 32 (0, 0))) := zA (h2.obj HS4.out (by omega) (by intro c fz h; cases h))
  clear h1 h2 HW4 HF4 HS4 hs4 hll htb hldl
  generalize hy : topB W = y at *
  have HY := zA hy
  clear hy
  have hz := HW5.out.z.1
  go_wp2_with fail
  clear hz
  go_loopw [25] (fun j wr => ∃ q : Nat, q ≤ T.length ∧ j = .int .i64 (q : Int) ∧ Hid (Wr w.heap.size wr b (.slice o1 T.length c1) (.slice o2 P.length c2) (.slice o3 V.length c3) (y ++ zI (P.zip V) D (T.take q))) ∧ Hid (Fr w.heap.size b w wr) ∧ Hid (wr.heap[w.heap.size]? = some (.cells #[.slice o1 T.length c1, .slice o2 P.length c2, .slice o3 V.length c3, .int .i64 dv, .slice od D.length cd, .slice og G.length cg, .slice ov W.length cv] 32 (0, 0)))) (fun j _ => T.length - (intOf j).toNat)
  case atStart => exact ⟨0, Nat.zero_le _, rfl, by simpa [zI] using HW5, HF5, HS5⟩
  case round =>
   clear HW5 HF5 HS5
   obtain ⟨q, hq, rfl, HWr, HFr, HSr⟩ := hrel
   by_cases hgo : q < T.length
   ·obtain ⟨x, hx⟩ : ∃ x, T[q]? = some x := ⟨T[q], by simp [hgo]⟩
    have htk : zI (P.zip V) D (T.take (q + 1)) = zI (P.zip V) D (T.take q) ++ perB (P.zip V) D x := by
     have e2 : T.take (q + 1) = T.take q ++ [x] := by rw [List.take_add_one, hx]; rfl
     rw [e2]
     exact textsB_snoc (P.zip V) D (T.take q) x
    have HTk := zA htk
    have HM := zA (List.mem_of_getElem? hx)
    have hln := lineB_len HL0.out HM.out
    have HTq := zA (HTl.out q)
    have hzl : (T.take q).length ≤ 12 := by rw [List.length_take]; omega
    have hsr : w.heap.size ≤ wr.heap.size := HFr.out.bl.size
    obtain ⟨A, rfl, t0, t1, t2, t3, t4, t5⟩ := HTa.out wr HFr.out.bl q x hx
    clear htk hx
    have lk : w.heap.size < wr.heap.size := zK HSr.out
    have hba := (Below.refl wr.heap.size wr).alloc (Nat.le_refl _) (.cells #[.int .i64 x.i, .int .i64 x.k, .int .i64 x.f, .int .i64 x.t, .int .i64 x.z, .int .i64 x.r] 51)
    have HFa := zA (HFr.out.on hsr hba)
    have HWa := zA (HWr.out.below hba)
    have HSa : Hid ((wr.alloc (.cells #[.int .i64 x.i, .int .i64 x.k, .int .i64 x.f, .int .i64 x.t, .int .i64 x.z, .int .i64 x.r] 51)).heap[w.heap.size]? = some (.cells #[.slice (some A) T.length c1, .slice o2 P.length c2, .slice o3 V.length c3, .int .i64 dv, .slice od D.length cd, .slice og G.length cg, .slice ov W.length cv] 32 (0, 0))) := zA ((hba.block _ (zK HSr.out)).trans HSr.out)
    have HPb := zA (heap_alloc_new wr (.cells #[.int .i64 x.i, .int .i64 x.k, .int .i64 x.f, .int .i64 x.t, .int .i64 x.z, .int .i64 x.r] 51))
    have hbr : b < wr.heap.size := HWr.out.lt
    go_wp2_with fail
    clear t0 t1 t2 t3 t4 t5 hba HFr HWr HSr
    have hpb : wr.heap.size < (wr.alloc (.cells #[.int .i64 x.i, .int .i64 x.k, .int .i64 x.f, .int .i64 x.t, .int .i64 x.z, .int .i64 x.r] 51)).heap.size := zK HPb.out
    generalize wr.alloc (.cells #[.int .i64 x.i, .int .i64 x.k, .int .i64 x.f, .int .i64 x.t, .int .i64 x.z, .int .i64 x.r] 51) = wa at *
    have hTq := HTq.out
    have hl9 : (y ++ zI (P.zip V) D (T.take q)).length ≤ 900000 := by rw [List.length_append]; omega
    refine (HPt.out HL0.out x HM.out b _ wa HFa.out.bl HWa.out hl9).mono ?_
    rintro e w6 ⟨rfl, h1, h2⟩
    have HW6 := zA h1
    have HF6 := zA (HFa.out.trans h2)
    have HS6 : Hid (w6.heap[w.heap.size]? = some (.cells #[.slice (some A) T.length c1, .slice o2 P.length c2, .slice o3 V.length c3, .int .i64 dv, .slice od D.length cd, .slice og G.length cg, .slice ov W.length cv] 32 (0, 0))) := zA (h2.obj HSa.out (by omega) (by intro c fz h; cases h))
    have HP6 : Hid (w6.heap[wr.heap.size]? = some (.cells #[.int .i64 x.i, .int .i64 x.k, .int .i64 x.f, .int .i64 x.t, .int .i64 x.z, .int .i64 x.r] 51 (0, 0))) := zA (h2.obj HPb.out (by omega) (by intro c fz h; cases h))
    clear h1 h2 HWa HFa HSa HPb hpb
    have s4 : w6.cell? ⟨w.heap.size, 4, none⟩ = some (.slice od D.length cd) := (cell_of_row _ _ 4 _ _ _ HS6.out).trans rfl
    have p0 : w6.cell? ⟨wr.heap.size, 0, none⟩ = some (.int .i64 x.i) := (cell_of_row _ _ 0 _ _ _ HP6.out).trans rfl
    go_wp2_with fail
    refine (HDn.out w6 HF6.out.bl x.i).mono ?_
    rintro e w6' ⟨rfl, hw⟩
    obtain rfl := hw.symm
    clear s4 p0
    have hs6 : w.heap.size ≤ w6.heap.size := HF6.out.bl.size
    have HPe : Hid (perB (P.zip V) D x = yK (P.zip V) x ++ ((if hasI D x.i = true then [33] else []) ++ [10])) := zA rfl
    rw [HPe.out] at HTk
    clear HPe
    generalize yK (P.zip V) x = ln at *
    generalize zI (P.zip V) D (T.take q) = tq at *
    have hll : (y ++ tq ++ ln).length + [[33]].flatten.length ≤ 999000 := by simp only [List.length_append] at hl9 ⊢; simp; omega
    cases hd : hasI D x.i
    ·rw [hd, if_neg (by decide), List.nil_append] at HTk
     have hl2 : (y ++ tq ++ ln).length + [[10]].flatten.length ≤ 1000000 := by simp at hll ⊢; omega
     go_wp2_with fail
     refine (put_new w.heap.size b _ _ _ _ [[10]] _ rfl 1 rfl (by decide) w6 HW6.out hs6 hl2).mono ?_
     rintro e w7 ⟨rfl, h1, h2⟩
     have HW7 : Hid (Wr w.heap.size w7 b (.slice (some A) T.length c1) (.slice o2 P.length c2) (.slice o3 V.length c3) (y ++ zI (P.zip V) D (T.take (q + 1)))) := by
      rw [HTk.out]
      simpa [List.append_assoc] using zA h1
     have HF7 := zA (HF6.out.trans h2)
     have HS7 : Hid (w7.heap[w.heap.size]? = some (.cells #[.slice (some A) T.length c1, .slice o2 P.length c2, .slice o3 V.length c3, .int .i64 dv, .slice od D.length cd, .slice og G.length cg, .slice ov W.length cv] 32 (0, 0))) := zA (h2.obj HS6.out (by omega) (by intro c fz h; cases h))
     clear h1 h2 HW6 HF6 HS6 HP6 hs6 hll hl2
     go_wp2_with fail
     go_roundw
     case rel => exact ⟨q + 1, by omega, by go_num, HW7, HF7, HS7⟩
     case measure => simp [intOf]; omega
    ·rw [hd, if_pos rfl] at HTk
     have hl3 : (y ++ tq ++ ln).length + [[33]].flatten.length ≤ 1000000 := by omega
     go_wp2_with fail
     refine (put_new w.heap.size b _ _ _ _ [[33]] _ rfl 1 rfl (by decide) w6 HW6.out hs6 hl3).mono ?_
     rintro e w7 ⟨rfl, h1, h2⟩
     have HW7 := zA h1
     have HF7 := zA (HF6.out.trans h2)
     have HS7 : Hid (w7.heap[w.heap.size]? = some (.cells #[.slice (some A) T.length c1, .slice o2 P.length c2, .slice o3 V.length c3, .int .i64 dv, .slice od D.length cd, .slice og G.length cg, .slice ov W.length cv] 32 (0, 0))) := zA (h2.obj HS6.out (by omega) (by intro c fz h; cases h))
     have hs7 : w.heap.size ≤ w7.heap.size := HF7.out.bl.size
     have lk7 : w.heap.size < w7.heap.size := zK HS7.out
     clear h1 h2 HW6 HF6 HS6 HP6 hs6 hl3
     have hl2 : (y ++ tq ++ ln ++ [[33]].flatten).length + [[10]].flatten.length ≤ 1000000 := by simp at hll ⊢; omega
     go_wp2_with fail
     refine (put_new w.heap.size b _ _ _ _ [[10]] _ rfl 1 rfl (by decide) w7 HW7.out hs7 hl2).mono ?_
     rintro e w8 ⟨rfl, h1, h2⟩
     have HW8 : Hid (Wr w.heap.size w8 b (.slice (some A) T.length c1) (.slice o2 P.length c2) (.slice o3 V.length c3) (y ++ zI (P.zip V) D (T.take (q + 1)))) := by
      rw [HTk.out]
      simpa [List.append_assoc] using zA h1
     have HF8 := zA (HF7.out.trans h2)
     have HS8 : Hid (w8.heap[w.heap.size]? = some (.cells #[.slice (some A) T.length c1, .slice o2 P.length c2, .slice o3 V.length c3, .int .i64 dv, .slice od D.length cd, .slice og G.length cg, .slice ov W.length cv] 32 (0, 0))) := zA (h2.obj HS7.out (by omega) (by intro c fz h; cases h))
     clear h1 h2 HW7 HF7 HS7 hs7 hll hl2
     go_wp2_with fail
     go_roundw
     case rel => exact ⟨q + 1, by omega, by go_num, HW8, HF8, HS8⟩
     case measure => simp [intOf]; omega
   ·have hqe : T.take q = T := List.take_of_length_le (by omega)
    rw [hqe] at HWr
    have hne : y ++ zI (P.zip V) D T ≠ [] := by rw [← HY.out]; unfold topB; simp
    go_wp2_with fail
    refine (string_any w.heap.size b _ _ _ _ wr HWr.out hne).mono ?_
    rintro e w6 ⟨rfl, hb⟩
    have HB6 := zA (HFr.out.bl.trans hb)
    clear hb
    go_wp2_with fail
    go_ret2
    exact ⟨by rw [HR.out]; rfl, HB6.out⟩
 ·have hL0 : chkS T P V dv D G W ≠ 0 := by simpa using hL
  have HR := zA (F1.out hL0)
  clear F1 F2 hL0
  go_wp2_with fail
  go_ret2
  exact ⟨by rw [HR.out]; rfl, HB.out⟩
#print axioms text_any
theorem sadd (A B : List UInt8) (h : A.length + B.length ≤ 1000000) : ∃ C, Hid (C = A ++ B) ∧ C.length = A.length + B.length ∧ ∀ w, (Op.stringOp .add ⟨A.toArray⟩ ⟨B.toArray⟩).run Tryz.prog w = .ok (.string ⟨C.toArray⟩) w :=
 ⟨A ++ B, zA rfl, by simp, fun w => run_string_add_lists w A B (by omega) (by omega)⟩
theorem dig_cut : ∀ i : Fin 10, (⟨#[48, 49, 50, 51, 52, 53, 54, 55, 56, 57]⟩ : ByteArray).extract i.val (i.val + 1) = ⟨#[UInt8.ofNat (48 + i.val)]⟩ := by decide +kernel
theorem digits10_any (n : Nat) (h : n < 10) (w : World) :
  Calls Tryz.prog 33 #[.int .i64 n] w fun e w' => e = .returned (.string ⟨(itD n).toArray⟩) ∧ w' = w := by
 have hsl : ∀ w, (Instr.slice 9 (.string ⟨#[48, 49, 50, 51, 52, 53, 54, 55, 56, 57]⟩) (some (.int .i64 (n : Int))) (some (.int .i64 ((n : Int) + 1))) none).run Tryz.prog w = .ok (.string ⟨(itD n).toArray⟩) w := fun w => by
  rw [run_slice_string w 9 _ .i64 .i64 _ _ Tryz.underlying9 (by omega) (by omega) (by show ((n : Int) + 1) ≤ ((10 : Nat) : Int); omega), show ((n : Int)).toNat = n by omega, show ((n : Int) + 1).toNat = n + 1 by omega, dig_cut ⟨n, h⟩, itD_small (by omega) (by omega)]
  rfl
 go_enter Tryz.func33, Tryz.ntmps33
 go_wp2
 go_ret
 exact ⟨rfl, rfl⟩
theorem digitsOf_any (k : Nat) : ∀ (n : Nat), n < k → n ≤ 9999 → ∀ (w : World),
  Calls Tryz.prog 33 #[.int .i64 n] w fun e w' => e = .returned (.string ⟨(itD n).toArray⟩) ∧ Below w.heap.size w w' := by
 induction k with
 | zero => intro n h; omega
 | succ k ih =>
  intro n hn h9 w
  by_cases h : n < 10
  ·exact (digits10_any n h w).mono (fun e w' hh => ⟨hh.1, by rw [hh.2]; exact Below.refl _ _⟩)
  ·have e1 : (((n / 10 : Nat)) : Int) = (n : Int) / 10 := by omega
   have e2 : (((n % 10 : Nat)) : Int) = (n : Int) % 10 := by omega
   obtain ⟨A, hA⟩ : ∃ A, A = itD ((n : Int) / 10) := ⟨_, rfl⟩
   obtain ⟨B, hB⟩ : ∃ B, B = itD ((n : Int) % 10) := ⟨_, rfl⟩
   have H1 : Hid (∀ W, Calls Tryz.prog 33 #[.int .i64 ((n : Int) / 10)] W fun e w' => e = .returned (.string ⟨A.toArray⟩) ∧ Below W.heap.size W w') := zA (fun W => by
    have h := ih (n / 10) (by omega) (by omega) W
    rw [e1, ← hA] at h
    exact h)
   have H2 : Hid (∀ W, Calls Tryz.prog 33 #[.int .i64 ((n : Int) % 10)] W fun e w' => e = .returned (.string ⟨B.toArray⟩) ∧ w' = W) := zA (fun W => by
    have h := digits10_any (n % 10) (by omega) W
    rw [e2, ← hB] at h
    exact h)
   have HS : Hid (itD (n : Int) = A ++ B) := zA (by rw [hA, hB]; exact itD_step (by omega))
   have hz1 : A.length ≤ 20 := by rw [hA]; exact zU (by omega)
   have hz2 : B.length ≤ 20 := by rw [hB]; exact zU (by omega)
   obtain ⟨C, hC, hCl, hadd⟩ := sadd A B (by omega)
   clear ih e1 e2 hA hB
   go_enter Tryz.func33, Tryz.ntmps33
   go_wp2_with fail
   refine (H1.out w).mono ?_
   rintro e w1 ⟨rfl, hb⟩
   have HB := zA hb
   clear hb
   go_wp2_with fail
   refine (H2.out w1).mono ?_
   rintro e w2 ⟨rfl, hw⟩
   obtain rfl := hw.symm
   go_wp2_with fail
   go_ret
   exact ⟨by rw [HS.out, ← hC.out]; rfl, HB.out⟩
#print axioms digits10_any
theorem vi_of_sgn {b : UInt8} {k : Nat} (hk : k < 31) (h : sgn k = b) : vi b = (k : Int) := by rw [← h]; exact vof_sgn_all ⟨k, hk⟩
theorem vi_none {b : UInt8} (h : ∀ j, j < 31 → sgn j ≠ b) : vi b = -1 := by
 have g := vi_all ⟨b.toNat, b.toNat_lt⟩
 rw [← byte_cases b] at g
 rcases g with ⟨g, _⟩ | ⟨g0, g1, g2⟩
 ·exact g
 ·exact absurd g2 (h _ (by omega))
theorem valueOf_any (b : UInt8) (w : World) :
  Calls Tryz.prog 88 #[.int .u8 (b.toNat : Int)] w fun e w' => e = .returned (.int .i64 (vi b)) ∧ w' = w := by
 go_enter Tryz.func88, Tryz.ntmps88
 go_wp2
 go_loop [3] (fun i => ∃ k : Nat, k ≤ 31 ∧ i = .int .i64 k ∧ ∀ j, j < k → sgn j ≠ b) (fun i => 31 - (intOf i).toNat)
 case atStart => exact ⟨0, Nat.zero_le _, rfl, fun j h => by omega⟩
 case round =>
  obtain ⟨k, hk, rfl, hno⟩ := hrel
  have HNO := zA hno
  clear hno
  by_cases hlt : k < 31
  ·have hidx : ∀ h, (⟨#[48, 49, 50, 51, 52, 53, 54, 55, 56, 57, 65, 66, 67, 68, 69, 70, 71, 72, 74, 75, 76, 77, 78, 80, 81, 82, 83, 84, 85, 86, 87]⟩ : ByteArray)[k]'h = sgn k := fun h => sg_get ⟨k, hlt⟩
   have hvI : (k : Int) < 31 := by omega
   by_cases heq : sgn k = b
   ·have hbq : (((sgn k).toNat : Int) == (b.toNat : Int)) = true := by rw [heq]; simp
    have HE := zA heq
    clear heq
    go_wp2
    go_ret
    exact ⟨ret_int (vi_of_sgn hlt HE.out).symm, rfl⟩
   ·have hbq : (((sgn k).toNat : Int) == (b.toNat : Int)) = false := by
     rw [beq_eq_false_iff_ne]; intro h; apply heq; apply UInt8.toNat_inj.1; omega
    have HE := zA heq
    clear heq
    go_wp2
    refine ⟨⟨k + 1, by omega, by go_num, fun j hj => ?_⟩, by simp [intOf]; omega⟩
    by_cases hjk : j = k
    ·rw [hjk]; exact HE.out
    ·exact HNO.out j (by omega)
  ·go_wp2
   go_ret
   exact ⟨ret_int (vi_none (fun j hj => HNO.out j (by omega))).symm, rfl⟩
theorem vals_get' {l : List UInt8} {vs : List Nat} (h : zT l = some vs) (n : Nat) (hn : n < l.length) : ∃ v, vs[n]? = some v ∧ vof l[n] = some v := by
 induction l generalizing vs n with
 | nil => simp at hn
 | cons a l ih =>
  obtain ⟨u, us, h1, h2, rfl⟩ := xB.1 h
  cases n with
  | zero => exact ⟨u, rfl, h1⟩
  | succ n => simpa using ih h2 n (by simpa using hn)
theorem mk_fits' (l : List Nat) : (ws l + mk l) % 31 = 0 := by unfold mk; omega
theorem mk_lt' (l : List Nat) : mk l < 31 := Nat.mod_lt _ (by omega)
theorem sg_cut : ∀ v : Fin 31, (⟨#[48, 49, 50, 51, 52, 53, 54, 55, 56, 57, 65, 66, 67, 68, 69, 70, 71, 72, 74, 75, 76, 77, 78, 80, 81, 82, 83, 84, 85, 86, 87]⟩ : ByteArray).extract v.val (v.val + 1) = ⟨#[sgn v.val]⟩ := by decide +kernel
theorem run_cut (v : Nat) (hv : v < 31) (W : World) : (Instr.slice 9 (.string ⟨#[48, 49, 50, 51, 52, 53, 54, 55, 56, 57, 65, 66, 67, 68, 69, 70, 71, 72, 74, 75, 76, 77, 78, 80, 81, 82, 83, 84, 85, 86, 87]⟩) (some (.int .i64 (v : Int))) (some (.int .i64 ((v : Int) + 1))) none).run Tryz.prog W = .ok (.string ⟨#[sgn v]⟩) W := by
 have h := run_slice_string (P := Tryz.prog) W 9 ⟨#[48, 49, 50, 51, 52, 53, 54, 55, 56, 57, 65, 66, 67, 68, 69, 70, 71, 72, 74, 75, 76, 77, 78, 80, 81, 82, 83, 84, 85, 86, 87]⟩ .i64 .i64 (v : Int) ((v : Int) + 1) Tryz.underlying9 (by omega) (by omega) (by show (v : Int) + 1 ≤ ((31 : Nat) : Int); omega)
 rw [h, show ((v : Int) + 1).toNat = v + 1 by omega, Int.toNat_natCast, sg_cut ⟨v, hv⟩]
theorem mk_unique {W v : Nat} {l : List Nat} (hW : ws l = W) (hv : v < 31) (h : (W + v) % 31 = 0) : v = mk l := by
 unfold mk; rw [hW]; omega
theorem markOf_any (s : ByteArray) (vs : List Nat) (w : World) (hs : s.size ≤ 20) (hv : zT s.data.toList = some vs) :
  Calls Tryz.prog 59 #[.string s] w fun e w' => e = .returned (S [sgn (mk vs)]) ∧ w' = w := by
 have hlen : vs.length = s.size := by rw [vals_len hv]; simp
 have hlt31 := zA (vals_lt hv)
 have HV := zA hv
 have HL := zA hlen
 clear hv hlen
 go_enter Tryz.func59, Tryz.ntmps59
 go_wp2
 go_loop [3, 4] (fun t i => ∃ k : Nat, k ≤ s.size ∧ i = .int .i64 k ∧ t = .int .i64 (ws (vs.take k) : Int)) (fun _ i => s.size - (intOf i).toNat)
 case atStart => exact ⟨0, Nat.zero_le _, rfl, rfl⟩
 case round =>
  obtain ⟨k, hk, rfl, rfl⟩ := hrel
  have hb := ws_le vs hlt31.out k (by omega) (by have := HL.out; omega)
  have hb' : ws (vs.take k) ≤ 13200 := by omega
  clear hb
  by_cases hkn : k < s.size
  ·have hkl : k < vs.length := by have := HL.out; omega
   obtain ⟨v0, hv0, hv0'⟩ := vals_get' HV.out k (by simpa using hkn)
   have hvv : vs[k] = v0 := by
    have := List.getElem?_eq_getElem hkl
    rw [hv0] at this; exact (Option.some.inj this).symm
   have hvi : vi s[k] = (v0 : Int) := vof_some.1 hv0'
   have hv31 := (vof_lt hv0').1
   have hws : ws (vs.take (k + 1)) = ws (vs.take k) + v0 * (k + 2) := by
    rw [List.take_succ_eq_append_getElem hkl, ws_snoc, show (vs.take k).length = k by simp; omega, hvv]
   generalize hy : ws (vs.take k) = y at *
   have h4 : v0 * (k + 2) ≤ 30 * 22 := Nat.mul_le_mul (by omega) (by omega)
   generalize hp : v0 * (k + 2) = p at *
   have hmul : (v0 : Int) * ((k : Int) + 2) = (p : Int) := by rw [← hp]; simp
   have HW := zA hws
   have HY := zA hy
   have HP := zA hp
   have HVI := zA hvi
   clear hws hy hp hvi hv0 hv0' hvv
   go_wp2_with (go_at_call 88; refine (valueOf_any _ _).mono ?_; rintro e w' ⟨rfl, rfl⟩; rw [HVI.out])
   refine ⟨⟨k + 1, by omega, by go_num, ?_⟩, by simp [intOf]; omega⟩
   rw [HW.out]
   go_num
  ·have hke : k = s.size := by omega
   rw [List.take_of_length_le (by have := HL.out; omega)] at hb' ⊢
   generalize hy : ws vs = y at *
   have HY := zA hy
   clear hy
   go_wp2
   go_loop [5] (fun i => ∃ v : Nat, v ≤ mk vs ∧ i = .int .i64 v) (fun i => 31 - (intOf i).toNat)
   case atStart => exact ⟨0, Nat.zero_le _, rfl⟩
   case round =>
    obtain ⟨v, hvm, rfl⟩ := hrel
    have hm := mk_lt' vs
    have hv31 : v < 31 := by omega
    have hcut := run_cut v hv31
    by_cases hfit : (y + v) % 31 = 0
    ·have hq : (((y : Int) + (v : Int)) % 31 == 0) = true := by simp; omega
     have HF := zA hfit
     clear hfit
     go_wp2
     go_ret
     refine ⟨?_, rfl⟩
     rw [mk_unique HY.out hv31 HF.out]; rfl
    ·have hq : (((y : Int) + (v : Int)) % 31 == 0) = false := by rw [beq_eq_false_iff_ne]; omega
     have HF := zA hfit
     clear hfit
     go_wp2
     refine ⟨⟨v + 1, ?_, by go_num⟩, by simp [intOf]; omega⟩
     have h1 := mk_fits' vs
     rw [HY.out] at h1
     have h2 := unhide HF
     by_cases he : v = mk vs
     ·exfalso; apply h2; rw [he]; exact h1
     ·omega
theorem bytes_of (w : World) (s : ByteArray) : ∃ (cap : Nat) (W : World), (convert 9 54 (.string s)).run Tryz.prog w = .ok (.slice (some ⟨w.heap.size, 0, none⟩) s.size cap) W ∧ s.size ≤ cap ∧ Below w.heap.size w W ∧ w.heap.size < W.heap.size ∧
  (∀ j (h : j < s.size), W.cell? ⟨w.heap.size, j, none⟩ = some (.int .u8 (s[j].toNat : Int))) ∧ (∀ j, j < s.size → W.frozen? ⟨w.heap.size, j, none⟩ = false) := by
 refine ⟨grownCap w s.size 0 5, _, run_bytes_of_string w 9 54 5 s Tryz.underlying9 Tryz.underlying54 Tryz.underlying5, grownCap_ge _ _ _ _, ?_, ?_, ?_, ?_⟩
 ·exact (Below.refl _ _).drew.alloc (Nat.le_refl _) _
 ·show _ < (w.heap.push _).size
  simp
 ·intro j h
  have hj : j < s.data.size := h
  have hb := bytesRow_at s (grownCap w s.size 0 5) j hj
  have := cell_of_row (w.drew.alloc (.cells (bytesRow s (grownCap w s.size 0 5)) 5 ((bytesRow s (grownCap w s.size 0 5)).size, (bytesRow s (grownCap w s.size 0 5)).size + 1))) w.heap.size j _ 5 _ (heap_alloc_new w.drew _)
  rw [this, hb]
  rfl
 ·intro j h
  have hn := heap_alloc_new w.drew (.cells (bytesRow s (grownCap w s.size 0 5)) 5 ((bytesRow s (grownCap w s.size 0 5)).size, (bytesRow s (grownCap w s.size 0 5)).size + 1))
  have hsz : s.size ≤ (bytesRow s (grownCap w s.size 0 5)).size := by simp [bytesRow]
  unfold World.frozen?
  rw [show w.heap.size = w.drew.heap.size from rfl, hn]
  simp
  intro h2
  omega
theorem set_cells (W : World) (g n : Nat) (l : List UInt8) (b : UInt8) (hn : n < l.length) (h : ∀ j (hj : j < l.length), W.cell? ⟨g, j, none⟩ = some (.int .u8 (l[j].toNat : Int))) :
  ∀ j (hj : j < (l.set n b).length), (W.setCell ⟨g, n, none⟩ (.int .u8 (b.toNat : Int))).cell? ⟨g, j, none⟩ = some (.int .u8 ((l.set n b)[j].toNat : Int)) := by
 intro j hj
 rw [List.length_set] at hj
 by_cases e : n = j
 ·subst e
  rw [World.cell?_setCell_same' _ _ _ (by rw [h n hn]; rfl)]
  simp
 ·have hne : (⟨g, n, none⟩ : Addr) ≠ ⟨g, j, none⟩ := by intro he; apply e; cases he; rfl
  have hc : (W.setCell ⟨g, n, none⟩ (.int .u8 (b.toNat : Int))).cell? ⟨g, j, none⟩ = W.cell? ⟨g, j, none⟩ := by
   apply World.cell?_setCell_other; exact hne
  rw [hc, h j hj, List.getElem_set_ne e]
theorem run_str8 (W : World) (g : Nat) (hg : g = W.heap.size) (n0 n1 n2 n3 n4 n5 n6 n7 : Int) (x0 x1 x2 x3 x4 x5 x6 x7 : UInt8)
  (h0 : n0 = (x0.toNat : Int)) (h1 : n1 = (x1.toNat : Int)) (h2 : n2 = (x2.toNat : Int)) (h3 : n3 = (x3.toNat : Int)) (h4 : n4 = (x4.toNat : Int)) (h5 : n5 = (x5.toNat : Int)) (h6 : n6 = (x6.toNat : Int)) (h7 : n7 = (x7.toNat : Int)) :
  (convert 54 9 (.slice (some ⟨g, 0, none⟩) 8 8)).run Tryz.prog (W.alloc (.cells #[.int .u8 n0, .int .u8 n1, .int .u8 n2, .int .u8 n3, .int .u8 n4, .int .u8 n5, .int .u8 n6, .int .u8 n7] 5)) =
   .ok (.string ⟨[x0, x1, x2, x3, x4, x5, x6, x7].toArray⟩) (W.alloc (.cells #[.int .u8 n0, .int .u8 n1, .int .u8 n2, .int .u8 n3, .int .u8 n4, .int .u8 n5, .int .u8 n6, .int .u8 n7] 5)) := by
 subst hg h0 h1 h2 h3 h4 h5 h6 h7
 refine run_str _ W.heap.size 8 8 0 [x0, x1, x2, x3, x4, x5, x6, x7] ?_
 exact World.ownsRow_lit (base := 0) (e := 5) (size := 1) W _ 8 (Nat.zero_le _) (by unfold maxLen; omega) rfl
theorem bytes_ok (i k f t z r : Nat) (w : World) (h : Right i k f t z r) :
  Calls Tryz.prog 58 #[tk i k f t z r] w fun e w' => e = .returned (S (encL i k f t z r)) ∧ Below w.heap.size w w' := by
 obtain ⟨i1, i2, k1, k2, f2, t2, ft, z1, z2, r2, r3, r0⟩ := h
 clear r3 r0
 have hs := run_str8 (w.alloc (.cells #[.int .i64 i, .int .i64 k, .int .i64 f, .int .i64 t, .int .i64 z, .int .i64 r] 51)) (w.heap.size + 1) (by simp)
  ((i : Int) / 256) ((i : Int) % 256) ((f : Int) / 256) ((f : Int) % 256) ((t : Int) / 256) ((t : Int) % 256) (16 * (k : Int) + (z : Int)) (r : Int)
  (UInt8.ofNat (i / 256)) (UInt8.ofNat i) (UInt8.ofNat (f / 256)) (UInt8.ofNat f) (UInt8.ofNat (t / 256)) (UInt8.ofNat t) (UInt8.ofNat (k * 16 + z)) (UInt8.ofNat r)
  (by simp only [UInt8.toNat_ofNat']; omega) (by simp only [UInt8.toNat_ofNat']; omega) (by simp only [UInt8.toNat_ofNat']; omega) (by simp only [UInt8.toNat_ofNat']; omega)
  (by simp only [UInt8.toNat_ofNat']; omega) (by simp only [UInt8.toNat_ofNat']; omega) (by simp only [UInt8.toNat_ofNat']; omega) (by simp only [UInt8.toNat_ofNat']; omega)
 rw [← encL_eq] at hs
 generalize hX : encL i k f t z r = X at hs ⊢
 clear hX
 go_enter Tryz.func58, Tryz.ntmps58
 go_wp2_with fail
 go_ret
 exact ⟨rfl, ((Below.refl _ _).alloc (Nat.le_refl _) _).alloc (by simp) _⟩
structure Row (w : World) (g : Nat) (l : List UInt8) : Prop where
 c : ∀ j (hj : j < l.length), w.cell? ⟨g, j, none⟩ = some (.int .u8 (l[j].toNat : Int))
 z : ∀ j, j < l.length → w.frozen? ⟨g, j, none⟩ = false
theorem Row.set {w : World} {g : Nat} {l : List UInt8} (h : Row w g l) (n : Nat) (hn : n < l.length) (b : UInt8) : Row (w.setCell ⟨g, n, none⟩ (.int .u8 (b.toNat : Int))) g (l.set n b) :=
 ⟨set_cells w g n l b hn h.c, fun j hj => by rw [World.frozen?_setCell]; exact h.z j (by simpa using hj)⟩
theorem v_int {k : IntKind} {a b : Int} (h : a = b) : Value.int k a = Value.int k b := by rw [h]
theorem div_step (Q r x M : Nat) (hr : r < 31) (hx : x < 256) (h : Q * 31 + r = M) :
  (256 * r + x) / 31 < 256 ∧ (Q * 256 + (256 * r + x) / 31) * 31 + (256 * r + x) % 31 = M * 256 + x := by omega
theorem codeOf_ok (i k f t z r : Nat) (w : World) (h : Right i k f t z r) :
  Calls Tryz.prog 32 #[tk i k f t z r] w fun e w' => e = .returned (S (codeL (num (encL i k f t z r)))) ∧ Below w.heap.size w w' := by
 have HR := zA h
 have hU8 := encL_len i k f t z r
 clear h
 generalize hU : encL i k f t z r = U at *
 have HU := zA hU
 generalize hN : num U = N at *
 have HN := zA hN
 have HU8 := zA hU8
 clear hU hN hU8
 go_enter Tryz.func32, Tryz.ntmps32
 go_wp2_with fail
 refine (bytes_ok i k f t z r _ HR.out).mono ?_
 rintro e w1 ⟨rfl, hb1⟩
 rw [HU.out]
 simp only [S]
 have hB1 : Below w.heap.size w w1 := ((Below.refl _ _).alloc (Nat.le_refl _) _).trans (hb1.mono (by simp))
 clear hb1
 obtain ⟨cap, W, hrun, hcap, hBW, hlt, hcells, hfro⟩ := bytes_of w1 ⟨U.toArray⟩
 have hs8 : (⟨U.toArray⟩ : ByteArray).size = 8 := by have := HU8.out; simpa [ByteArray.size] using this
 rw [hs8] at hrun hcap
 have hrow : Row W w1.heap.size U := ⟨fun j hj => by
  have := hcells j (by rw [hs8]; have := HU8.out; omega)
  exact this, fun j hj => hfro j (by rw [hs8]; have := HU8.out; omega)⟩
 have hBW' := hB1.trans (hBW.mono hB1.size)
 have HROW := zA hrow
 clear hcells hfro hrow hs8
 have hg := hB1.size
 generalize w1.heap.size = g at *
 go_wp2_with fail
 go_loopw [4, 5] (fun sv nv wr => ∃ (m : Nat) (L : List UInt8) (A : ByteArray), m ≤ 13 ∧ nv = .int .i64 (m : Int) ∧ sv = .string A ∧ A = ⟨((dg N m).map sgn).toArray⟩ ∧ L.length = 8 ∧ num L = N / 31 ^ m ∧ Row wr g L ∧ Below w.heap.size w wr)
  (fun _ nv _ => 13 - (intOf nv).toNat)
 case atStart => exact ⟨0, U, ⟨#[]⟩, by omega, rfl, rfl, by simp [dg], HU8.out, by rw [HN.out]; simp, HROW.out, hBW'⟩
 case round =>
  obtain ⟨m, L, A, hm, rfl, rfl, hA, hL8, hLN, hrowL, hb⟩ := hrel
  have hAs : A.size = m := by rw [hA]; simp [ByteArray.size, dg_len]
  have HA := zA hA
  have HLN := zA hLN
  have HRL := zA hrowL
  have HL8 := zA hL8
  have HAS := zA hAs
  clear hA hLN hrowL hL8 hAs
  by_cases hm13 : m < 13
  ·go_wp2_with fail
   go_loopw [6, 7] (fun rv iv wq => ∃ (q : Nat) (rest : Nat) (Qs : List UInt8), q ≤ 8 ∧ iv = .int .i64 (q : Int) ∧ rv = .int .i64 (rest : Int) ∧ rest < 31 ∧ Qs.length = q ∧ num Qs * 31 + rest = num (L.take q) ∧ Row wq g (Qs ++ L.drop q) ∧ Below w.heap.size w wq)
    (fun _ iv _ => 8 - (intOf iv).toNat)
   case atStart => exact ⟨0, 0, [], by omega, rfl, rfl, by omega, rfl, by simp [num], by simpa using HRL.out, hb⟩
   case round =>
    obtain ⟨q, rest, Qs, hq, rfl, rfl, hr31, hQl, hQn, hrowQ, hbq⟩ := hrel
    have HQL := zA hQl
    have HQN := zA hQn
    have HRQ := zA hrowQ
    clear hQl hQn hrowQ
    by_cases hq8 : q < 8
    ·have hql : q < (Qs ++ L.drop q).length := by rw [List.length_append, List.length_drop, HQL.out, HL8.out]; omega
     have hqL : q < L.length := by rw [HL8.out]; omega
     have hget : (Qs ++ L.drop q)[q] = L[q] := by
      rw [List.getElem_append_right (by rw [HQL.out]; omega)]
      simp [HQL.out]
     have hc := HRQ.out.c q hql
     have hz := HRQ.out.z q hql
     rw [hget] at hc
     have hx := (L[q]).toNat_lt
     have hset : ∀ b : UInt8, (Qs ++ L.drop q).set q b = (Qs ++ [b]) ++ L.drop (q + 1) := fun b => by
      rw [List.set_append_right _ _ (by rw [HQL.out]; omega), HQL.out, Nat.sub_self, List.drop_eq_getElem_cons hqL, List.set_cons_zero]
      simp
     have htake : num (L.take (q + 1)) = num (L.take q) * 256 + (L[q]).toNat := by rw [List.take_succ_eq_append_getElem hqL, num_snoc]
     generalize hxx : (L[q]).toNat = x at *
     have hds := div_step (num Qs) rest x _ hr31 hx HQN.out
     have HT := zA htake
     have HSET := zA hset
     have HDS := zA hds.2
     have hd256 := hds.1
     have hbv : ((UInt8.ofNat ((256 * rest + x) / 31)).toNat : Int) = (256 * (rest : Int) + (x : Int)) / 31 := by simp only [UInt8.toNat_ofNat']; omega
     have hrow' := HRQ.out.set q hql (UInt8.ofNat ((256 * rest + x) / 31))
     rw [HSET.out, hbv] at hrow'
     have HROW' := zA hrow'
     clear htake hset hds hget hxx hbv hrow'
     go_wp2_with fail
     refine ⟨⟨q + 1, (256 * rest + x) % 31, Qs ++ [UInt8.ofNat ((256 * rest + x) / 31)], by omega, by go_num, v_int (by omega), by omega, by simp [HQL.out], ?_, HROW'.out, hbq.setCell hg _⟩, by simp [intOf]; omega⟩
     rw [num_snoc, show (UInt8.ofNat ((256 * rest + x) / 31)).toNat = (256 * rest + x) / 31 by simp only [UInt8.toNat_ofNat']; omega, HT.out, ← HDS.out]
    ·have hqe : q = 8 := by omega
     have hcut := run_cut rest hr31
     have hAm : A.size ≤ 12 := by rw [HAS.out]; omega
     have hMr : num Qs * 31 + rest = N / 31 ^ m := by
      have := HQN.out
      rw [List.take_of_length_le (by rw [HL8.out]; omega), HLN.out] at this
      exact this
     have hrest : rest = N / 31 ^ m % 31 := by omega
     have hnum : num Qs = N / 31 ^ (m + 1) := by rw [Nat.pow_succ, ← Nat.div_div_eq_div_mul]; omega
     have HRE := zA hrest
     have HNU := zA hnum
     have HQ8 := zA hqe
     clear hMr hrest hnum
     go_wp2_with fail
     refine ⟨⟨m + 1, Qs, ⟨#[sgn rest]⟩ ++ A, by omega, by go_num, rfl, ?_, by rw [HQL.out]; exact HQ8.out, HNU.out, ?_, hbq⟩, by simp [intOf]; omega⟩
     ·rw [HA.out, show (⟨#[sgn rest]⟩ : ByteArray) = ⟨[sgn rest].toArray⟩ from rfl, app_mk, HRE.out]; rfl
     ·have := HRQ.out
      rw [HQ8.out, List.drop_of_length_le (by rw [HL8.out]; omega), List.append_nil] at this
      exact this
  ·have hme : m = 13 := by omega
   have hAs : A.size ≤ 13 := by rw [HAS.out]; omega
   have hAl : A.data.toList = (dg N 13).map sgn := by rw [HA.out, hme]
   have HAl := zA hAl
   clear hAl
   go_wp2_with fail
   refine (markOf_any A (dg N 13) _ (by omega) (by rw [HAl.out]; exact vals_sgn (dg_lt N 13))).mono ?_
   rintro e w2 ⟨rfl, rfl⟩
   simp only [S]
   have hs1 : (⟨[sgn (mk (dg N 13))].toArray⟩ : ByteArray).size = 1 := rfl
   go_wp2_with fail
   go_ret
   refine ⟨?_, hb⟩
   show Ending.returned (.string (A ++ ⟨[sgn (mk (dg N 13))].toArray⟩)) = _
   rw [HA.out, hme, app_mk]
   simp [S, codeL, codeD]
end
section
theorem printV_right {i k f t z r : Nat} (h : Right i k f t z r) : zZ (i : Int) k f t z r = (codeL (num (encL i k f t z r)), 0) := by
 have hc := chk_rightN h
 unfold zZ encV
 rw [if_pos hc, if_pos hc]
 simp
end
section
open Go.RowKit
theorem codeOf_any (x : TK) (hx : chkK x = 0) (w : World) :
  Calls Tryz.prog 32 #[tk x.i x.k x.f x.t x.z x.r] w fun e w' => e = .returned (.string ⟨(zZ x.i x.k x.f x.t x.z x.r).1.toArray⟩) ∧ Below w.heap.size w w' := by
 obtain ⟨i', k', f', t', z', r', h1, h2, h3, h4, h5, h6, hR⟩ := right_of _ _ _ _ _ _ hx
 rw [h1, h2, h3, h4, h5, h6, printV_right hR]
 exact codeOf_ok i' k' f' t' z' r' w hR
theorem digitsO_any (n : Int) (h0 : 0 ≤ n) (h9 : n ≤ 9999) (w : World) : Calls Tryz.prog 33 #[.int .i64 n] w fun e w' => e = .returned (.string ⟨(itD n).toArray⟩) ∧ Below w.heap.size w w' := by
 have h := digitsOf_any (n.toNat + 1) n.toNat (by omega) (by omega) w
 have e : ((n.toNat : Nat) : Int) = n := by omega
 rw [e] at h
 exact h
theorem rc_cut (v : Int) (h : v = 1 ∨ v = 2) (w : World) : (Instr.slice 9 (.string ⟨#[63, 114, 99]⟩) (some (.int .i64 v)) (some (.int .i64 (v + 1))) none).run Tryz.prog w = .ok (.string ⟨(if v = 1 then [114] else [99] : List UInt8).toArray⟩) w := by
 have c1 : (⟨#[63, 114, 99]⟩ : ByteArray).extract 1 2 = ⟨#[114]⟩ := by decide +kernel
 have c2 : (⟨#[63, 114, 99]⟩ : ByteArray).extract 2 3 = ⟨#[99]⟩ := by decide +kernel
 rcases h with rfl | rfl
 ·rw [run_slice_string w 9 _ .i64 .i64 _ _ Tryz.underlying9 (by decide) (by decide) (by decide)]
  show Result.ok (Value.string ((⟨#[63, 114, 99]⟩ : ByteArray).extract 1 2)) w = _
  rw [c1]; rfl
 ·rw [run_slice_string w 9 _ .i64 .i64 _ _ Tryz.underlying9 (by decide) (by decide) (by decide)]
  show Result.ok (Value.string ((⟨#[63, 114, 99]⟩ : ByteArray).extract 2 3)) w = _
  rw [c2]; rfl
theorem lineOf_any (T : List TK) (P : List TP) (V : List Int) (o1 o2 o3 : Option Addr) (c1 c2 c3 : Nat) (k : Nat) (x : TK) (w : World) (hT : zH w o1 T) (hP : zD w o2 P) (hV : zF w o3 V) (h0 : zQ T P V = 0) (hx : T[k]? = some x) :
  Calls Tryz.prog 10 #[lg o1 o2 o3 T.length c1 P.length c2 V.length c3, .int .i64 (k : Int)] w fun e w' => e = .returned (.string ⟨(yK (P.zip V) x).toArray⟩) ∧ Below w.heap.size w w' := by
 have hr := zE h0
 have hxm := List.mem_of_getElem? hx
 have hf := line_facts h0 hxm
 have hfp := taps_facts h0
 have hl60 : P.length ≤ 60 := hr.2.1
 have hkl : k < T.length := (List.getElem?_eq_some_iff.1 hx).1
 have hl12 : T.length ≤ 12 := hr.1
 have HLV := zA hr.2.2.1
 have hc := yG hr.2.2.2.1 x hxm
 have HTa := zA (fun W (h : Below w.heap.size w W) => hT.below h)
 have HPa := zA (fun W (h : Below w.heap.size w W) => hP.below h)
 have HVa := zA (fun W (h : Below w.heap.size w W) => hV.below h)
 obtain ⟨pv, hpv⟩ : ∃ pv, pv = (zZ x.i x.k x.f x.t x.z x.r).1 := ⟨_, rfl⟩
 obtain ⟨M, hM⟩ : ∃ M, M = (yA (P.zip V) x.i).1 := ⟨_, rfl⟩
 obtain ⟨M2, hM2⟩ : ∃ M2, M2 = (yA (P.zip V) x.i).2 := ⟨_, rfl⟩
 obtain ⟨R, hR⟩ : ∃ R, R = allR x.k x.r - (yA (P.zip V) x.i).1 := ⟨_, rfl⟩
 have HC := zA (fun W => (by rw [hpv]; exact codeOf_any x hc W : Calls Tryz.prog 32 #[tk x.i x.k x.f x.t x.z x.r] W fun e w' => e = .returned (.string ⟨pv.toArray⟩) ∧ Below W.heap.size W w'))
 have HMn := zA (fun W (h : Below w.heap.size w W) => (by
  have e := manyOf_any o1 o2 o3 T.length c1 c2 c3 P V x.i P.length W (hP.below h) (hV.below h) (Nat.le_refl _) (by omega) (by omega)
  have et : (P.zip V).take P.length = P.zip V := List.take_of_length_le (by rw [List.length_zip]; omega)
  rw [et, ← hM, ← hM2] at e
  exact e : Calls Tryz.prog 27 #[lg o1 o2 o3 T.length c1 P.length c2 V.length c3, .int .i64 x.i, .int .i64 (P.length : Int)] W fun e w' => e = .returned (.tuple #[.int .i64 M, .int .i64 M2]) ∧ Below W.heap.size W w'))
 have HLo := zA (fun W (h : Below w.heap.size w W) => (by
  have e := leftOf_any o1 o2 o3 c1 c2 c3 T P V k x W (hT.below h) (hP.below h) (hV.below h) hr.2.2.1 hl60 hl12 hx hc
  rw [← hR] at e
  exact e : Calls Tryz.prog 34 #[lg o1 o2 o3 T.length c1 P.length c2 V.length c3, .int .i64 (k : Int)] W fun e w' => e = .returned (.int .i64 R) ∧ Below W.heap.size W w'))
 have hfb : 0 ≤ M ∧ M ≤ 60 ∧ 0 ≤ R ∧ R ≤ 60 := by rw [hM, hR]; omega
 have hpl : pv.length ≤ 14 := by rw [hpv]; exact printV_len ..
 have hhl := headB_len h0 hxm
 obtain ⟨d1, hd1⟩ : ∃ d1, d1 = itD M := ⟨_, rfl⟩
 obtain ⟨d2, hd2⟩ : ∃ d2, d2 = itD R := ⟨_, rfl⟩
 have hl1 : d1.length ≤ 20 := by rw [hd1]; exact zU (by omega)
 have hl2 : d2.length ≤ 20 := by rw [hd2]; exact zU (by omega)
 have HD1 := zA (fun W => (by rw [hd1]; exact digitsO_any M hfb.1 (by omega) W : Calls Tryz.prog 33 #[.int .i64 M] W fun e w' => e = .returned (.string ⟨d1.toArray⟩) ∧ Below W.heap.size W w'))
 have HD2 := zA (fun W => (by rw [hd2]; exact digitsO_any R hfb.2.2.1 (by omega) W : Calls Tryz.prog 33 #[.int .i64 R] W fun e w' => e = .returned (.string ⟨d2.toArray⟩) ∧ Below W.heap.size W w'))
 obtain ⟨s1, hs1, hn1, ha1⟩ := sadd pv [32] (by simp; omega)
 obtain ⟨s2, hs2, hn2, ha2⟩ := sadd s1 d1 (by simp at hn1; omega)
 obtain ⟨s3, hs3, hn3, ha3⟩ := sadd s2 [47] (by simp at hn1 ⊢; omega)
 obtain ⟨s4, hs4, hn4, ha4⟩ := sadd s3 d2 (by simp at hn1 hn3; omega)
 have HH : Hid (s4 = headB (P.zip V) x) := zA (by rw [hs4.out, hs3.out, hs2.out, hs1.out, headB, ← hR, ← hM, ← hpv, hd1, hd2]; simp)
 have HTl := zA (fun q => (tapsB_len (id := x.i) ((P.zip V).take q) (fun y hy => by have := hfp y (List.mem_of_mem_take hy); omega)))
 have HFP := zA hfp
 have hy60 : s4.length ≤ 60 := by rw [HH.out]; exact hhl
 have HX := zA hx
 clear hr hf hfp hT hP hV hx hc hpv hM hM2 hR hfb h0 hd1 hd2 hhl hs1 hs2 hs3 hs4 hn1 hn2 hn3 hn4 hxm hl1 hl2 hpl
 have HG0 := zA ((zM.nil w).more (.cells #[.slice o1 T.length c1, .slice o2 P.length c2, .slice o3 V.length c3] 26) (by simp))
 have HB0 := zA HG0.out.2.2
 obtain ⟨A1, ho1, u0, u1, u2, u3, u4, u5⟩ := HTa.out (w.alloc (.cells #[.slice o1 T.length c1, .slice o2 P.length c2, .slice o3 V.length c3] 26)) HB0.out k x HX.out
 subst ho1
 have cs0 : (w.alloc (.cells #[.slice (some A1) T.length c1, .slice o2 P.length c2, .slice o3 V.length c3] 26)).cell? ⟨w.heap.size, 0, none⟩ = some (.slice (some A1) T.length c1) := HG0.out.cell 0 0 _ _ _ _ rfl rfl rfl
 have cs1 : (w.alloc (.cells #[.slice (some A1) T.length c1, .slice o2 P.length c2, .slice o3 V.length c3] 26)).cell? ⟨w.heap.size, 1, none⟩ = some (.slice o2 P.length c2) := HG0.out.cell 0 1 _ _ _ _ rfl rfl rfl
 have cs2 : (w.alloc (.cells #[.slice (some A1) T.length c1, .slice o2 P.length c2, .slice o3 V.length c3] 26)).cell? ⟨w.heap.size, 2, none⟩ = some (.slice o3 V.length c3) := HG0.out.cell 0 2 _ _ _ _ rfl rfl rfl
 go_enter Tryz.func10, Tryz.ntmps10
 go_wp2_with fail
 refine (HMn.out _ HB0.out).mono ?_
 rintro e w2 ⟨rfl, hb⟩
 have HG := zA (HG0.out.on hb)
 have HB := zA HG.out.2.2
 clear hb u0 u1 u2 u3 u4 u5 cs0 cs1 cs2 HG0 HB0
 generalize hlb : (.cells #[.slice (some A1) T.length c1, .slice o2 P.length c2, .slice o3 V.length c3] 26 : Obj) = LBo at *
 have HLB := zA hlb
 clear hlb
 obtain ⟨A1', ho1, t0, t1, t2, t3, t4, t5⟩ := HTa.out w2 HB.out k x HX.out
 cases ho1
 rw [← HLB.out] at HG
 have c0 : w2.cell? ⟨w.heap.size, 0, none⟩ = some (.slice (some A1) T.length c1) := HG.out.cell 0 0 _ _ _ _ rfl rfl rfl
 have c1' : w2.cell? ⟨w.heap.size, 1, none⟩ = some (.slice o2 P.length c2) := HG.out.cell 0 1 _ _ _ _ rfl rfl rfl
 have c2' : w2.cell? ⟨w.heap.size, 2, none⟩ = some (.slice o3 V.length c3) := HG.out.cell 0 2 _ _ _ _ rfl rfl rfl
 have q0 := cell_regrown c0
 have q1 := cell_regrown c1'
 have q2 := cell_regrown c2'
 have p0 := cell_regrown t0
 have p1 := cell_regrown t1
 have p2 := cell_regrown t2
 have p3 := cell_regrown t3
 have p4 := cell_regrown t4
 have p5 := cell_regrown t5
 have kC : ∀ d os, Calls Tryz.prog 32 #[tk x.i x.k x.f x.t x.z x.r] (Sort.grow (redrawn w2 d) os) fun e w'' => e = .returned (.string ⟨pv.toArray⟩) ∧ ∃ p : Regrown, w'' = Sort.grow (redrawn w2 p.d) p.os := fun d os => Calls.regrown_of (HC.out _)
 have kL : ∀ d os, Calls Tryz.prog 34 #[lg (some A1) o2 o3 T.length c1 P.length c2 V.length c3, .int .i64 (k : Int)] (Sort.grow (redrawn w2 d) os) fun e w'' => e = .returned (.int .i64 R) ∧ ∃ p : Regrown, w'' = Sort.grow (redrawn w2 p.d) p.os := fun d os => Calls.regrown_of (HLo.out _ (HB.out.trans ((below_regrown w2 d os).mono HB.out.size)))
 have kD1 : ∀ d os, Calls Tryz.prog 33 #[.int .i64 M] (Sort.grow (redrawn w2 d) os) fun e w'' => e = .returned (.string ⟨d1.toArray⟩) ∧ ∃ p : Regrown, w'' = Sort.grow (redrawn w2 p.d) p.os := fun d os => Calls.regrown_of (HD1.out _)
 have kD2 : ∀ d os, Calls Tryz.prog 33 #[.int .i64 R] (Sort.grow (redrawn w2 d) os) fun e w'' => e = .returned (.string ⟨d2.toArray⟩) ∧ ∃ p : Regrown, w'' = Sort.grow (redrawn w2 p.d) p.os := fun d os => Calls.regrown_of (HD2.out _)
 go_wp2_with fail
 refine wp_region_quiet_below (by kernel_rfl) (by kernel_rfl) ?_
 repeat (go_big_quiet_step (first | with_reducible exact kC _ _ | with_reducible exact kL _ _ | with_reducible exact kD1 _ _ | with_reducible exact kD2 _ _))
 refine wpQuiet_nil ?_
 intro _ hw'
 obtain ⟨⟨dq, osq⟩, hw''⟩ := hw'
 subst hw''
 have hb := below_regrown w2 dq osq
 clear c0 c1' c2' q0 q1 q2 t0 t1 t2 t3 t4 t5 p0 p1 p2 p3 p4 p5 kC kL kD1 kD2 ha1 ha2 ha3 ha4
 have HG3 := zA (HG.out.on hb)
 clear hb HG HB
 generalize Sort.grow (redrawn w2 dq) osq = w3 at *
 have HB3 := zA HG3.out.2.2
 have HR3 : Hid (w3.heap[w.heap.size]? = some (.cells #[.slice (some A1) T.length c1, .slice o2 P.length c2, .slice o3 V.length c3] 26 (0, 0))) := zA (HG3.out.1 0 _ rfl)
 clear HG3
 go_wp2_with fail
 go_loopw [8, 9] (fun v j wr => ∃ (q : Nat) (s : List UInt8), q ≤ P.length ∧ j = .int .i64 (q : Int) ∧ v = .string ⟨s.toArray⟩ ∧ Hid (s = s4 ++ yC ((P.zip V).take q) x.i) ∧ Hid (Below w.heap.size w wr) ∧ Hid (wr.heap[w.heap.size]? = some (.cells #[.slice (some A1) T.length c1, .slice o2 P.length c2, .slice o3 V.length c3] 26 (0, 0)))) (fun _ j _ => P.length - (intOf j).toNat)
 case atStart => exact ⟨0, s4, Nat.zero_le _, rfl, rfl, zA (by simp [yC]), HB3, HR3⟩
 case round =>
  clear HB3 HR3
  obtain ⟨q, s, hq, rfl, rfl, HS, HBr, HRr⟩ := hrel
  have c0 : wr.cell? ⟨w.heap.size, 0, none⟩ = some (.slice (some A1) T.length c1) := (cell_of_row _ _ 0 _ _ _ HRr.out).trans rfl
  have c1' : wr.cell? ⟨w.heap.size, 1, none⟩ = some (.slice o2 P.length c2) := (cell_of_row _ _ 1 _ _ _ HRr.out).trans rfl
  have c2' : wr.cell? ⟨w.heap.size, 2, none⟩ = some (.slice o3 V.length c3) := (cell_of_row _ _ 2 _ _ _ HRr.out).trans rfl
  by_cases hgo : q < P.length
  ·obtain ⟨p, hp⟩ : ∃ p, P[q]? = some p := ⟨P[q], by simp [hgo]⟩
   obtain ⟨v, hv⟩ : ∃ v, V[q]? = some v := ⟨V[q]'(by have := HLV.out; omega), by simp⟩
   have hz : (P.zip V)[q]? = some (p, v) := by rw [List.getElem?_zip_eq_some]; exact ⟨hp, hv⟩
   have hpf : (0 ≤ p.g ∧ p.g ≤ 2) ∧ (0 ≤ p.m ∧ p.m ≤ 9999) ∧ (v = 1 ∨ v = 2) := HFP.out _ (List.mem_of_getElem? hz)
   have htk : yC ((P.zip V).take (q + 1)) x.i = yC ((P.zip V).take q) x.i ++ (if p.a = x.i then rtapB p v else []) := by
    have e2 : (P.zip V).take (q + 1) = (P.zip V).take q ++ [(p, v)] := by rw [List.take_add_one, hz]; rfl
    rw [e2]
    exact tapsB_snoc ((P.zip V).take q) (p, v) x.i
   have HTk := zA htk
   have hzl : ((P.zip V).take q).length ≤ 60 := by rw [List.length_take]; omega
   have hsl : s.length ≤ 5000 := by have h1 := HTl.out q; rw [HS.out, List.length_append]; omega
   obtain ⟨A2, ho2, t0, t1, t2, t3, t4⟩ := HPa.out wr HBr.out q p hp
   subst ho2
   obtain ⟨A3, ho3, v0⟩ := HVa.out wr HBr.out q v hv
   subst ho3
   have hqv : q < V.length := by have := HLV.out; omega
   clear htk hz hv hp hzl
   by_cases hid : p.a = x.i
   ·rw [if_pos hid] at HTk
    rw [hid] at t0
    clear hid
    obtain ⟨g, hg⟩ : ∃ g, g = itD p.g := ⟨_, rfl⟩
    obtain ⟨m, hm⟩ : ∃ m, m = itD p.m := ⟨_, rfl⟩
    have hgl : g.length ≤ 20 := by rw [hg]; exact zU (by omega)
    have hml : m.length ≤ 20 := by rw [hm]; exact zU (by omega)
    have HDg := zA (fun W => (by rw [hg]; exact digitsO_any p.g hpf.1.1 (by omega) W : Calls Tryz.prog 33 #[.int .i64 p.g] W fun e w' => e = .returned (.string ⟨g.toArray⟩) ∧ Below W.heap.size W w'))
    have HDm := zA (fun W => (by rw [hm]; exact digitsO_any p.m hpf.2.1.1 (by omega) W : Calls Tryz.prog 33 #[.int .i64 p.m] W fun e w' => e = .returned (.string ⟨m.toArray⟩) ∧ Below W.heap.size W w'))
    obtain ⟨sg, hsg, hsgl, hcut⟩ : ∃ sg : List UInt8, Hid (sg = if v = 1 then [114] else [99]) ∧ sg.length ≤ 1 ∧ ∀ w, (Instr.slice 9 (.string ⟨#[63, 114, 99]⟩) (some (.int .i64 v)) (some (.int .i64 (v + 1))) none).run Tryz.prog w = .ok (.string ⟨sg.toArray⟩) w :=
     ⟨_, zA rfl, by split <;> simp, rc_cut v hpf.2.2⟩
    obtain ⟨z1, hz1, hn1, ha1⟩ := sadd [32] sg (by simp; omega)
    obtain ⟨z2, hz2, hn2, ha2⟩ := sadd z1 g (by simp at hn1; omega)
    obtain ⟨z3, hz3, hn3, ha3⟩ := sadd z2 [64] (by simp at hn1 ⊢; omega)
    obtain ⟨z4, hz4, hn4, ha4⟩ := sadd z3 m (by simp at hn1 hn3; omega)
    obtain ⟨z5, hz5, hn5, ha5⟩ := sadd s z4 (by simp at hn1 hn3; omega)
    have HZ : Hid (z5 = s4 ++ yC ((P.zip V).take (q + 1)) x.i) := zA (by
     rw [HTk.out, hz5.out, hz4.out, hz3.out, hz2.out, hz1.out, hsg.out, HS.out, rtapB, hg, hm]
     simp)
    have hvb : 0 ≤ v ∧ v ≤ 2 := by omega
    clear hz1 hz2 hz3 hz4 hz5 hn1 hn2 hn3 hn4 hn5 hg hm hsg HTk HS
    have q0 := cell_regrown c0
    have q1 := cell_regrown c1'
    have q2 := cell_regrown c2'
    have p1 := cell_regrown t1
    have p3 := cell_regrown t3
    have pv0 := cell_regrown v0
    have kG : ∀ d os, Calls Tryz.prog 33 #[.int .i64 p.g] (Sort.grow (redrawn wr d) os) fun e w'' => e = .returned (.string ⟨g.toArray⟩) ∧ ∃ p : Regrown, w'' = Sort.grow (redrawn wr p.d) p.os := fun d os => Calls.regrown_of (HDg.out _)
    have kM : ∀ d os, Calls Tryz.prog 33 #[.int .i64 p.m] (Sort.grow (redrawn wr d) os) fun e w'' => e = .returned (.string ⟨m.toArray⟩) ∧ ∃ p : Regrown, w'' = Sort.grow (redrawn wr p.d) p.os := fun d os => Calls.regrown_of (HDm.out _)
    go_wp2_with fail
    refine wp_region_quiet_below (by kernel_rfl) (by kernel_rfl) ?_
    repeat (go_big_quiet_step (first | with_reducible exact kG _ _ | with_reducible exact kM _ _))
    refine wpQuiet_nil ?_
    intro _ hw'
    obtain ⟨⟨dq, osq⟩, hw''⟩ := hw'
    subst hw''
    have hb := below_regrown wr dq osq
    clear c0 c1' c2' q0 q1 q2 t0 t1 t2 t3 t4 p1 p3 v0 pv0 kG kM ha1 ha2 ha3 ha4 ha5 hcut
    have HB4 := trR HBr hb
    have HR4 := zA ((hb.block _ (Array.getElem?_eq_some_iff.1 HRr.out).1).trans HRr.out)
    clear hb HBr HRr
    generalize Sort.grow (redrawn wr dq) osq = w4 at *
    go_wp2_with fail
    go_roundw
    case rel => exact ⟨q + 1, z5, by omega, by go_num, rfl, HZ, HB4, HR4⟩
    case measure => simp [intOf]; omega
   ·rw [if_neg hid, List.append_nil] at HTk
    go_wp2_with fail
    go_roundw
    case rel => exact ⟨q + 1, s, by omega, by go_num, rfl, by rw [HTk.out]; exact HS, HBr, HRr⟩
    case measure => simp [intOf]; omega
  ·have hqe : (P.zip V).take q = P.zip V := List.take_of_length_le (by rw [List.length_zip]; omega)
   rw [hqe] at HS
   go_wp2_with fail
   go_ret
   exact ⟨by unfold yK; rw [← HH.out, ← HS.out]; rfl, HBr.out⟩
#print axioms lineOf_any
theorem setR_ways (L : List VW) (who : Int) (up : Bool) : (unfW L who 2 ≠ 0 ∧ setR L who up = []) ∨ (unfW L who 2 = 0 ∧ setR L who up = setL L who up) := by
 rw [setR]
 by_cases h : unfW L who 2 = 0 <;> simp [h]
theorem setL_len (L : List VW) (who : Int) (up : Bool) : (setL L who up).length = L.length := by simp [setL]
theorem set_any (o : Option Addr) (cap : Nat) (L : List VW) (who : Int) (up : Bool) (w : World) (hL : zJ w o L) (hlen : L.length ≤ 9223372036854775807) :
  Calls Tryz.prog 43 #[.slice o L.length cap, .int .i64 who, .bool up] w fun e w' => (∃ o' n c', e = .returned (.tuple #[.slice o' n c', .int .i64 (unfW L who 2)]) ∧ VwsV w' (.slice o' n c') (setR L who up) ∧ yD w.heap.size (.slice o' n c')) ∧ Below w.heap.size w w' := by
 have HL := zA hL
 have HU := zA (fun W (h : zJ W o L) => unfW_any who 3 o cap L W h hlen (by omega))
 simp only [show (3 : Int) - 1 = 2 from rfl] at HU
 clear hL
 rcases setR_ways L who up with ⟨h0, hr⟩ | ⟨h0, hr⟩
 ·have h0' : (unfW L who 2 != 0) = true := by simpa using h0
  rw [hr]
  clear hr h0
  generalize unfW L who 2 = E at *
  go_enter Tryz.func43, Tryz.ntmps43
  go_wp2_with fail
  refine (HU.out _ HL.out).mono ?_
  rintro e w1 ⟨rfl, hb⟩
  have HB := zA hb
  clear hb
  go_wp2_with fail
  go_ret2
  exact ⟨⟨_, _, _, rfl, vwsV_nil _, fresh_nil _⟩, HB.out⟩
 ·obtain ⟨hc, hw0, hw1⟩ := unfW_right h0
  have hl3 := yV hc
  obtain ⟨k, rfl⟩ : ∃ k : Nat, who = (k : Int) := ⟨who.toNat, by omega⟩
  obtain ⟨p, hp⟩ : ∃ p, L[k]? = some p := ⟨L[k]'(by omega), by simp⟩
  obtain ⟨A, rfl, -⟩ := HL.out k p hp
  have HK := zA (fun W (h : zJ W (some A) L) => cloneO_any L A cap W h (by omega) (by omega))
  have hkI : (k : Int) < (L.length : Int) := by omega
  have hkN : k < L.length := by omega
  have HP := zA hp
  rw [h0] at HU ⊢
  have hR : setR L k up = L.modify k fun v => ⟨v.e, v.l, up⟩ := hr
  generalize setR L k up = R at *
  have HR := zA hR
  clear hc hl3 hp hr hR h0 hw0 hw1
  go_enter Tryz.func43, Tryz.ntmps43
  go_wp2_with fail
  refine (HU.out _ HL.out).mono ?_
  rintro e w1 ⟨rfl, hb⟩
  have HL1 := zA (HL.out.below hb)
  have HB1 := zA hb
  clear hb
  go_wp2_with fail
  refine (HK.out _ HL1.out).mono ?_
  rintro e w2 ⟨⟨g, c, rfl, hg, hown⟩, hb2⟩
  have HO := zA hown
  have HB2 := zA (HB1.out.trans (hb2.mono HB1.out.size))
  have hg' : w.heap.size ≤ g := Nat.le_trans HB1.out.size hg
  clear hown hb2 hg
  obtain ⟨pe, pl, pu⟩ := p
  have c2 : w2.cell? ⟨g, k * 3 + 2, none⟩ = some (.bool pu) := by rw [HO.out.cellAt _ (by omega)]; exact yU L k _ HP.out 2 (by decide)
  have z2 := HO.out.frozenAt (k * 3 + 2)
  have HS := zA (HO.out.stored (k * 3 + 2) (.bool up)).1
  rw [cellsW_up L k up (by omega)] at HS
  have HBs := zA (HB2.out.setCell (p := ⟨g, k * 3 + 2, none⟩) hg' (.bool up))
  have HR' := zA (show L.length = R.length by rw [HR.out]; exact (setL_len L k up).symm)
  have HS' := zA (show VwsV _ _ R from HR.out ▸ vwsV_own HS.out)
  go_wp2_with fail
  go_ret2
  exact ⟨⟨_, _, _, rfl, HS'.out, fun k hk => by cases hk; exact hg'⟩, HBs.out⟩
theorem splW_pair {L : List VW} {a b : VW} (ha : a ∈ L) (hb : b ∈ L) (h : twoW a b = true) : splW L = true := by
 rw [splW, List.any_eq_true]
 exact ⟨a, ha, by rw [List.any_eq_true]; exact ⟨b, hb, h⟩⟩
theorem topW_max (L : List VW) : ∀ p ∈ L, p.e ≤ (zY L).e := by
 cases L with
 | nil => intro p hp; simp at hp
 | cons x r =>
  show ∀ p ∈ x :: r, p.e ≤ (List.foldl _ x r).e
  have key : ∀ (r : List VW) (x : VW), x.e ≤ (List.foldl (fun m y : VW => if m.e < y.e then y else m) x r).e ∧ ∀ p ∈ r, p.e ≤ (List.foldl (fun m y : VW => if m.e < y.e then y else m) x r).e := by
   intro r
   induction r with
   | nil => intro x; simp
   | cons y r ih =>
    intro x
    rw [List.foldl_cons]
    split
    ·rename_i h
     refine ⟨by have := (ih y).1; omega, fun p hp => ?_⟩
     rcases List.mem_cons.1 hp with rfl | hp
     ·exact (ih p).1
     ·exact (ih y).2 p hp
    ·rename_i h
     refine ⟨(ih x).1, fun p hp => ?_⟩
     rcases List.mem_cons.1 hp with rfl | hp
     ·have := (ih x).1; omega
     ·exact (ih x).2 p hp
  intro p hp
  rcases List.mem_cons.1 hp with rfl | hp
  ·exact (key r p).1
  ·exact (key r x).2 p hp
def lastL (e : Int) (L : List VW) : Int := L.foldl (fun w v => if v.e = e then v.l else w) 0
def isE (e : Int) (v : VW) : Bool := v.e == e
def upE (e : Int) (v : VW) : Bool := v.u && v.e == e
theorem lastL_snoc (e : Int) (L : List VW) (p : VW) : lastL e (L ++ [p]) = if p.e = e then p.l else lastL e L := by
 rw [lastL, List.foldl_append]
 rfl
theorem lastL_top {L : List VW} (h : zO L = 0) {e : Int} (ha : L.any (isE e) = true) (hm : ∀ p ∈ L, p.e ≤ e) : (zY L).e = e ∧ lastL e L = (zY L).l := by
 have hl := yV h
 have hmem := topW_mem L (by intro e; rw [e] at hl; simp at hl)
 have hsp : splW L = false := by
  obtain ⟨_, _, _, -, -, -, -, hs⟩ := chkVs_right h
  exact hs
 obtain ⟨p, hp, hpe⟩ := List.any_eq_true.1 ha
 have hpe' : p.e = e := by simpa [isE] using hpe
 have h1 := topW_max L p hp
 have h2 := hm _ hmem
 have he : (zY L).e = e := by omega
 refine ⟨he, ?_⟩
 have hall : ∀ v ∈ L, v.e = e → v.l = (zY L).l := by
  intro v hv hve
  cases hne : (v.l != (zY L).l)
  ·simpa using hne
  ·have := splW_pair hv hmem (by rw [twoW, hne, hve, he]; simp)
   rw [hsp] at this
   cases this
 have key : ∀ (M : List VW) (w x : Int), (∀ v ∈ M, v.e = e → v.l = x) → M.foldl (fun w v => if v.e = e then v.l else w) w = if M.any (isE e) = true then x else w := by
  intro M
  induction M with
  | nil => intro w x _; simp
  | cons v M ih =>
   intro w x hx
   rw [List.foldl_cons, ih _ x (fun u hu => hx u (List.mem_cons_of_mem _ hu)), List.any_cons]
   by_cases hv : v.e = e
   ·have h3 := hx v (by simp) hv
    rw [if_pos hv, h3]
    simp [isE, hv]
   ·rw [if_neg hv]
    have : isE e v = false := by simpa [isE] using hv
    rw [this, Bool.false_or]
 rw [lastL, key L 0 _ hall, if_pos ha]
theorem lead_of {L : List VW} {e : Int} (h : zO L = 0) (ha : L.any (isE e) = true) (hm : ∀ p ∈ L, p.e ≤ e) (h0 : 0 < e) :
  leadsW L = (decide (2 ≤ (L.countP (upE e) : Int)) && upAt L (lastL e L)) ∧ (zY L).l = lastL e L := by
 obtain ⟨h1, h2⟩ := lastL_top h ha hm
 refine ⟨?_, h2.symm⟩
 rw [leadsW, ← h2, h1, mostW]
 have e1 : lastG (zY L) = upE e := by funext v; rw [lastG, upE, h1]
 rw [e1]
 have e2 : (e != 0) = true := by simp; omega
 rw [e2, Bool.true_and, Bool.and_comm]
 congr 1
 rw [decide_eq_decide]
 omega
theorem lead_none {L : List VW} (h : zO L = 0) (hm : ∀ p ∈ L, p.e ≤ 0) : leadsW L = false := by
 have hl := yV h
 have hmem := topW_mem L (by intro e; rw [e] at hl; simp at hl)
 have h1 := hm _ hmem
 have h2 := (yB h _ hmem).1
 have h3 : (zY L).e = 0 := by omega
 simp [leadsW, h3]
theorem whoOf_any (o : Option Addr) (cap : Nat) (L : List VW) (w : World) (hL : zJ w o L) (h0 : zO L = 0) :
  Calls Tryz.prog 35 #[.slice o L.length cap] w fun x w' => x = .returned (.tuple #[.int .i64 (whoW L), .bool (leadsW L)]) ∧ Below w.heap.size w w' := by
 have HL := zA hL
 have H3 := zA (yV h0)
 have HC := zA h0
 have hlen : L.length ≤ 9223372036854775807 := by have := H3.out; omega
 obtain ⟨R1, hR1⟩ : ∃ R1, R1 = whoW L := ⟨_, rfl⟩
 obtain ⟨R2, hR2⟩ : ∃ R2, R2 = leadsW L := ⟨_, rfl⟩
 rw [← hR1, ← hR2]
 rw [whoW, ← hR2] at hR1
 have HR1 := zA hR1
 have HR2 := zA hR2
 have HM0 : Hid (∀ p ∈ L, p.e ≤ 99) := fun p hp => (yB h0 p hp).2.1
 clear hL h0 hR1 hR2
 go_enter Tryz.func35, Tryz.ntmps35
 go_wp2_with fail
 go_loopw [4] (fun j wr => ∃ (e : Nat), e ≤ 99 ∧ j = .int .i64 e ∧ Hid (∀ p ∈ L, p.e ≤ (e : Int)) ∧ Hid (Below w.heap.size w wr)) (fun j _ => (intOf j).toNat)
 case atStart => exact ⟨99, by omega, rfl, HM0, Below.refl _ _⟩
 case round =>
  obtain ⟨e, he, rfl, hM, hB⟩ := hrel
  by_cases hge : 0 < e
  ·have heI : (0 : Int) < (e : Int) := by omega
   go_wp2_with fail
   go_loopw [5, 6, 7, 8] (fun t n v j ws => ∃ (q k : Nat) (b : Bool) (W : Int), q ≤ 3 ∧ k ≤ q ∧ j = .int .i64 q ∧ t = .bool b ∧ n = .int .i64 k ∧ v = .int .i64 W ∧ Hid (b = (L.take q).any (isE e) ∧ k = (L.take q).countP (upE e) ∧ W = lastL e (L.take q)) ∧ Hid (Below w.heap.size w ws)) (fun _ _ _ j _ => 3 - (intOf j).toNat)
   case atStart => exact ⟨0, 0, false, 0, by omega, by omega, rfl, rfl, rfl, rfl, ⟨by simp, by simp, by simp [lastL]⟩, hB⟩
   case round =>
    obtain ⟨q, k, b, W, hq, hk, rfl, rfl, rfl, rfl, hS, hB'⟩ := hrel
    by_cases hgo : q < 3
    ·obtain ⟨p, hp⟩ : ∃ p, L[q]? = some p := ⟨L[q]'(by have := H3.out; omega), by simp⟩
     have hqL : (q : Int) < (L.length : Int) := by have := H3.out; omega
     have hq3 : (q : Int) < 3 := by omega
     obtain ⟨A, rfl, c0, c1, c2⟩ := (HL.out.below hB'.out) q p hp
     have HS : Hid ((L.take (q + 1)).any (isE e) = (b || isE e p) ∧ (L.take (q + 1)).countP (upE e) = k + (if upE e p = true then 1 else 0) ∧ lastL e (L.take (q + 1)) = if p.e = e then p.l else W) := by
      obtain ⟨s1, s2, s3⟩ := hS.out
      refine ⟨?_, ?_, ?_⟩
      ·rw [List.take_add_one, hp, Option.toList_some, List.any_append, s1]; simp
      ·rw [List.take_add_one, hp, Option.toList_some, List.countP_append, s2]; simp [List.countP_cons]
      ·rw [List.take_add_one, hp, Option.toList_some, lastL_snoc, s3]
     clear hp hS
     obtain ⟨pe, pl, pu⟩ := p
     simp only [] at c0 c1 c2
     have u1 : isE e ⟨pe, pl, pu⟩ = (pe == (e : Int)) := rfl
     have u2 : upE e ⟨pe, pl, pu⟩ = (pu && (pe == (e : Int))) := rfl
     rw [u1, u2] at HS
     clear u1 u2
     cases h1 : (pe == (e : Int))
     ·have HS' : Hid (b = (L.take (q + 1)).any (isE e) ∧ k = (L.take (q + 1)).countP (upE e) ∧ W = lastL e (L.take (q + 1))) := by
       obtain ⟨s1, s2, s3⟩ := HS.out
       have hne : ¬ pe = (e : Int) := by simpa using h1
       refine ⟨?_, ?_, ?_⟩
       ·rw [s1, h1]; simp
       ·rw [s2, h1]; simp
       ·rw [s3, if_neg hne]
      clear HS
      go_wp2_with fail
      exact ⟨⟨q + 1, k, b, W, by omega, by omega, by simp, rfl, rfl, rfl, HS', hB'⟩, by simp [intOf]; omega⟩
     ·cases pu
      ·have HS' : Hid (true = (L.take (q + 1)).any (isE e) ∧ k = (L.take (q + 1)).countP (upE e) ∧ pl = lastL e (L.take (q + 1))) := by
        obtain ⟨s1, s2, s3⟩ := HS.out
        have hne : pe = (e : Int) := by simpa using h1
        refine ⟨?_, ?_, ?_⟩
        ·rw [s1, h1]; simp
        ·rw [s2]; simp
        ·rw [s3, if_pos hne]
       clear HS
       go_wp2_with fail
       go_quiet (fail)
       go_wp2_with fail
       exact ⟨⟨q + 1, k, true, pl, by omega, by omega, by simp, rfl, rfl, rfl, HS', below_drewN hB'.out _⟩, by simp [intOf]; omega⟩
      ·have HS' : Hid (true = (L.take (q + 1)).any (isE e) ∧ k + 1 = (L.take (q + 1)).countP (upE e) ∧ pl = lastL e (L.take (q + 1))) := by
        obtain ⟨s1, s2, s3⟩ := HS.out
        have hne : pe = (e : Int) := by simpa using h1
        refine ⟨?_, ?_, ?_⟩
        ·rw [s1, h1]; simp
        ·rw [s2, h1]; simp
        ·rw [s3, if_pos hne]
       clear HS
       go_wp2_with fail
       go_quiet (fail)
       go_wp2_with fail
       exact ⟨⟨q + 1, k + 1, true, pl, by omega, by omega, by simp, rfl, by simp, rfl, HS', below_drewN hB'.out _⟩, by simp [intOf]; omega⟩
    ·have hq3 : ¬ ((q : Int) < 3) := by omega
     have hS' := hS.out
     rw [List.take_of_length_le (by have := H3.out; omega)] at hS'
     have HS := zA hS'
     clear hS hS'
     cases b
     ·have hM' : Hid (∀ p ∈ L, p.e ≤ ((e - 1 : Nat) : Int)) := fun p hp => by
       have h1 := hM.out p hp
       have h2 : isE e p = false := by
        have := HS.out.1.symm
        rw [List.any_eq_false] at this
        simpa using this p hp
       have h3 : ¬ p.e = (e : Int) := by simpa [isE] using h2
       omega
      have he1 : ((e : Int) - 1) = ((e - 1 : Nat) : Int) := by omega
      clear HS
      go_wp2_with fail
      exact ⟨⟨e - 1, by omega, by rw [← he1], hM', hB'⟩, by simp [intOf]; omega⟩
     ·obtain ⟨s1, s2, s3⟩ := HS.out
      obtain ⟨hld, htl⟩ := lead_of HC.out s1.symm hM.out heI
      rw [← s2, ← s3] at hld
      rw [← s3] at htl
      obtain ⟨te, tk, tu, pl, ht, -, -, htk, hpl, hup⟩ := top_facts HC.out
      rw [ht] at htl
      simp only [] at htl
      obtain rfl := htl
      obtain ⟨pe, pll, pu⟩ := pl
      simp only [hup] at hld
      have HLD := zA hld
      have hkL : (tk : Int) < (L.length : Int) := by have := H3.out; omega
      obtain ⟨A, rfl, c0, c1, c2⟩ := (HL.out.below hB'.out) tk _ hpl
      have HT := zA ht
      clear s1 s2 s3 HS hld ht hpl hup
      by_cases hk2 : 2 ≤ k
      ·have hk2' : (2 : Int) ≤ (k : Int) := by omega
       cases pu
       ·have HA : Hid (R2 = false) := by
         show _ = _
         rw [HR2.out, HLD.out]; simp
        have HA1 : Hid (R1 = 0) := by
         show _ = _
         rw [HR1.out, HA.out]; rfl
        clear HLD
        go_wp2_with fail
        go_ret2
        exact ⟨by rw [HA.out, HA1.out]; rfl, hB'.out⟩
       ·have HA : Hid (R2 = true) := by
         show _ = _
         rw [HR2.out, HLD.out]; simp; omega
        have HA1 : Hid (R1 = tk) := by
         show _ = _
         rw [HR1.out, HA.out, HT.out]; rfl
        clear HLD
        go_wp2_with fail
        go_ret2
        exact ⟨by rw [HA.out, HA1.out]; rfl, hB'.out⟩
      ·have hk2' : ¬ ((2 : Int) ≤ (k : Int)) := by omega
       have HA : Hid (R2 = false) := by
        show _ = _
        rw [HR2.out, HLD.out]; simp; omega
       have HA1 : Hid (R1 = 0) := by
        show _ = _
        rw [HR1.out, HA.out]; rfl
       clear HLD
       go_wp2_with fail
       go_ret2
       exact ⟨by rw [HA.out, HA1.out]; rfl, hB'.out⟩
  ·obtain rfl : e = 0 := by omega
   have HA : Hid (R2 = false) := by
    show _ = _
    rw [HR2.out]
    exact lead_none HC.out (fun p hp => by simpa using hM.out p hp)
   have HA1 : Hid (R1 = 0) := by
    show _ = _
    rw [HR1.out, HA.out]; rfl
   go_wp2_with fail
   go_ret2
   exact ⟨by rw [HA.out, HA1.out]; rfl, hB.out⟩
theorem textOf_any (T : List TK) (P : List TP) (V : List Int) (dv : Int) (D : List Int) (G : List GT) (W : List VW) (o1 o2 o3 od og ov : Option Addr) (c1 c2 c3 cd cg cv : Nat) (w : World) (hs : StW w o1 o2 o3 c1 c2 c3 T P V od cd D og cg G ov cv W) (h0 : chkS T P V dv D G W = 0) :
  Calls Tryz.prog 11 #[stV o1 o2 o3 T.length c1 P.length c2 V.length c3 dv od D.length cd og G.length cg ov W.length cv] w fun e w' => e = .returned (.string ⟨(topB W ++ zI (P.zip V) D T).toArray⟩) ∧ Below w.heap.size w w' := by
 have hat := hs.led.at4
 have hr := chkS_right h0
 have hl12 : T.length ≤ 12 := (zE hr.1).1
 have HTa := zA (fun X (h : Below w.heap.size w X) => hat.1.below h)
 have HDn : Hid (∀ X, Below w.heap.size w X → ∀ id : Int, Calls Tryz.prog 36 #[.slice od D.length cd, .int .i64 id] X fun e w' => e = .returned (.bool (hasI D id)) ∧ Below X.heap.size X w') := zA (fun X h id => (hasInt_any D id od cd X (hs.den.1.below h) hs.den.2.1).mono (fun e w' hh => ⟨hh.1, by rw [hh.2]; exact Below.refl _ _⟩))
 have HLn := zA (fun X (h : Below w.heap.size w X) (q : Nat) (x : TK) (hx : T[q]? = some x) => lineOf_any T P V o1 o2 o3 c1 c2 c3 q x X (hat.1.below h) (hat.2.1.below h) (hat.2.2.1.below h) hr.1 hx)
 have HWh := zA (fun X (h : Below w.heap.size w X) => whoOf_any ov cv W X (hs.vws.below h) hr.2.2.2.2.1)
 have hnr := nowI_range hr.2.2.2.2.1
 have htop : (topB W).length ≤ 30 := by
  have := leadB_len hr.2.2.2.2.1
  unfold topB
  simp only [List.length_append, List.length_cons, List.length_nil]
  omega
 have HTl := zA (fun q => textsB_len hr.1 D (T.take q) (fun y hy => List.mem_of_mem_take hy))
 have HLl := zA (fun (x : TK) (hx : x ∈ T) => lineB_len hr.1 hx)
 have hnb : nowB W = leadsW W := by unfold nowB; rw [hr.2.2.2.2.1]; simp
 have hni : nowI W = whoW W := by rw [nowI, whoW, hnb]
 have F1 : Hid (leadsW W = true → topB W = ([108, 101, 97, 100, 101, 114, 32] ++ itD (whoW W)) ++ [10]) := zA (fun h => by rw [topB, leadB, hnb, hni, if_pos h]; simp)
 have F2 : Hid (leadsW W = false → topB W = [108, 101, 97, 100, 101, 114, 32, 45, 10]) := zA (fun h => by rw [topB, leadB, hnb, if_neg (by simp [h])]; rfl)
 rw [hni] at hnr
 have hdl := zU (n := whoW W) (by omega)
 have HDg := zA (fun X => digitsO_any (whoW W) hnr.1 (by omega) X)
 clear hs hat hr hnb hni h0
 generalize whoW W = who at *
 generalize leadsW W = ld at *
 generalize itD who = dw at *
 generalize hy : topB W = y at *
 clear hy
 have HG0 := zA ((zM.nil w).more (.cells #[.slice o1 T.length c1, .slice o2 P.length c2, .slice o3 V.length c3, .int .i64 dv, .slice od D.length cd, .slice og G.length cg, .slice ov W.length cv] 32) (by simp))
 have HB0 := zA HG0.out.2.2
 have cs0 : (w.alloc (.cells #[.slice o1 T.length c1, .slice o2 P.length c2, .slice o3 V.length c3, .int .i64 dv, .slice od D.length cd, .slice og G.length cg, .slice ov W.length cv] 32)).cell? ⟨w.heap.size, 0, none⟩ = some (.slice o1 T.length c1) := HG0.out.cell 0 0 _ _ _ _ rfl rfl rfl
 have cs1 : (w.alloc (.cells #[.slice o1 T.length c1, .slice o2 P.length c2, .slice o3 V.length c3, .int .i64 dv, .slice od D.length cd, .slice og G.length cg, .slice ov W.length cv] 32)).cell? ⟨w.heap.size, 1, none⟩ = some (.slice o2 P.length c2) := HG0.out.cell 0 1 _ _ _ _ rfl rfl rfl
 have cs2 : (w.alloc (.cells #[.slice o1 T.length c1, .slice o2 P.length c2, .slice o3 V.length c3, .int .i64 dv, .slice od D.length cd, .slice og G.length cg, .slice ov W.length cv] 32)).cell? ⟨w.heap.size, 2, none⟩ = some (.slice o3 V.length c3) := HG0.out.cell 0 2 _ _ _ _ rfl rfl rfl
 have cs3 : (w.alloc (.cells #[.slice o1 T.length c1, .slice o2 P.length c2, .slice o3 V.length c3, .int .i64 dv, .slice od D.length cd, .slice og G.length cg, .slice ov W.length cv] 32)).cell? ⟨w.heap.size, 3, none⟩ = some (.int .i64 dv) := HG0.out.cell 0 3 _ _ _ _ rfl rfl rfl
 have cs4 : (w.alloc (.cells #[.slice o1 T.length c1, .slice o2 P.length c2, .slice o3 V.length c3, .int .i64 dv, .slice od D.length cd, .slice og G.length cg, .slice ov W.length cv] 32)).cell? ⟨w.heap.size, 4, none⟩ = some (.slice od D.length cd) := HG0.out.cell 0 4 _ _ _ _ rfl rfl rfl
 have cs5 : (w.alloc (.cells #[.slice o1 T.length c1, .slice o2 P.length c2, .slice o3 V.length c3, .int .i64 dv, .slice od D.length cd, .slice og G.length cg, .slice ov W.length cv] 32)).cell? ⟨w.heap.size, 5, none⟩ = some (.slice og G.length cg) := HG0.out.cell 0 5 _ _ _ _ rfl rfl rfl
 have cs6 : (w.alloc (.cells #[.slice o1 T.length c1, .slice o2 P.length c2, .slice o3 V.length c3, .int .i64 dv, .slice od D.length cd, .slice og G.length cg, .slice ov W.length cv] 32)).cell? ⟨w.heap.size, 6, none⟩ = some (.slice ov W.length cv) := HG0.out.cell 0 6 _ _ _ _ rfl rfl rfl
 go_enter Tryz.func11, Tryz.ntmps11
 go_wp2_with fail
 clear cs0 cs1 cs2 cs3 cs4 cs5 cs6
 generalize w.alloc (.cells #[.slice o1 T.length c1, .slice o2 P.length c2, .slice o3 V.length c3, .int .i64 dv, .slice od D.length cd, .slice og G.length cg, .slice ov W.length cv] 32) = w1 at *
 refine (HWh.out w1 HB0.out).mono ?_
 rintro e w2 ⟨rfl, hb⟩
 have HG := zA (HG0.out.on hb)
 have HB := zA HG.out.2.2
 have HR : Hid (w2.heap[w.heap.size]? = some (.cells #[.slice o1 T.length c1, .slice o2 P.length c2, .slice o3 V.length c3, .int .i64 dv, .slice od D.length cd, .slice og G.length cg, .slice ov W.length cv] 32 (0, 0))) := zA (HG.out.1 0 _ rfl)
 clear hb HG0 HB0 HG
 obtain ⟨s1, hs1, hn1, ha1⟩ := sadd [108, 101, 97, 100, 101, 114, 32] dw (by simp; omega)
 obtain ⟨s2, hs2, hn2, ha2⟩ := sadd s1 [10] (by simp at hn1 ⊢; omega)
 cases ld
 ·have HY : Hid ([108, 101, 97, 100, 101, 114, 32, 45, 10] = y) := zA (F2.out rfl).symm
  clear F1 F2 HDg hs1 hs2 hn1 hn2 ha1 ha2
  go_wp2_with fail
  go_loopw [5, 6] (fun v j wr => ∃ (q : Nat) (s : List UInt8), q ≤ T.length ∧ j = .int .i64 (q : Int) ∧ v = .string ⟨s.toArray⟩ ∧ Hid (s = y ++ zI (P.zip V) D (T.take q)) ∧ Hid (Below w.heap.size w wr) ∧ Hid (wr.heap[w.heap.size]? = some (.cells #[.slice o1 T.length c1, .slice o2 P.length c2, .slice o3 V.length c3, .int .i64 dv, .slice od D.length cd, .slice og G.length cg, .slice ov W.length cv] 32 (0, 0)))) (fun _ j _ => T.length - (intOf j).toNat)
  case atStart => exact ⟨0, [108, 101, 97, 100, 101, 114, 32, 45, 10], Nat.zero_le _, rfl, rfl, by simpa [zI] using HY, HB, HR⟩
  case round =>
   clear HB HR
   obtain ⟨q, s, hq, rfl, rfl, HS, HBr, HRr⟩ := hrel
   have c0 : wr.cell? ⟨w.heap.size, 0, none⟩ = some (.slice o1 T.length c1) := (cell_of_row _ _ 0 _ _ _ HRr.out).trans rfl
   by_cases hgo : q < T.length
   ·obtain ⟨x, hx⟩ : ∃ x, T[q]? = some x := ⟨T[q], by simp [hgo]⟩
    have htk : zI (P.zip V) D (T.take (q + 1)) = zI (P.zip V) D (T.take q) ++ perB (P.zip V) D x := by
     have e2 : T.take (q + 1) = T.take q ++ [x] := by rw [List.take_add_one, hx]; rfl
     rw [e2]
     exact textsB_snoc (P.zip V) D (T.take q) x
    have HTk := zA htk
    have hln := HLl.out x (List.mem_of_getElem? hx)
    have hzl : (T.take q).length ≤ 12 := by rw [List.length_take]; omega
    have hsl : s.length ≤ 40000 := by have h1 := HTl.out q; rw [HS.out, List.length_append]; omega
    have HL := zA (fun X h => HLn.out X h q x hx)
    have HPe : Hid (perB (P.zip V) D x = yK (P.zip V) x ++ ((if hasI D x.i = true then [33] else []) ++ [10])) := zA rfl
    rw [HPe.out] at HTk
    clear HPe htk
    have HX := zA hx
    clear hx hzl
    generalize yK (P.zip V) x = ln at *
    obtain ⟨z1, hz1, hm1, hd1⟩ := sadd s ln (by omega)
    have c1' : wr.cell? ⟨w.heap.size, 1, none⟩ = some (.slice o2 P.length c2) := (cell_of_row _ _ 1 _ _ _ HRr.out).trans rfl
    have c2' : wr.cell? ⟨w.heap.size, 2, none⟩ = some (.slice o3 V.length c3) := (cell_of_row _ _ 2 _ _ _ HRr.out).trans rfl
    go_wp2_with fail
    refine (HL.out wr HBr.out).mono ?_
    rintro e w3 ⟨rfl, hb⟩
    have HB3 := trR HBr hb
    have HR3 := zA ((hb.block _ (zK HRr.out)).trans HRr.out)
    clear hb HBr HRr c0 c1' c2' HL
    obtain ⟨A, ho1, t0, -⟩ := HTa.out w3 HB3.out q x HX.out
    subst ho1
    have d0 : w3.cell? ⟨w.heap.size, 0, none⟩ = some (.slice (some A) T.length c1) := (cell_of_row _ _ 0 _ _ _ HR3.out).trans rfl
    have d4 : w3.cell? ⟨w.heap.size, 4, none⟩ = some (.slice od D.length cd) := (cell_of_row _ _ 4 _ _ _ HR3.out).trans rfl
    have q0 := cell_regrown d0
    have q4 := cell_regrown d4
    have p0 := cell_regrown t0
    have kH : ∀ d os, Calls Tryz.prog 36 #[.slice od D.length cd, .int .i64 x.i] (Sort.grow (redrawn w3 d) os) fun e w'' => e = .returned (.bool (hasI D x.i)) ∧ ∃ p : Regrown, w'' = Sort.grow (redrawn w3 p.d) p.os := fun d os => Calls.regrown_of (HDn.out _ (HB3.out.trans ((below_regrown w3 d os).mono HB3.out.size)) x.i)
    go_wp2_with fail
    refine wp_region_quiet_below (by kernel_rfl) (by kernel_rfl) ?_
    repeat (go_big_quiet_step (first | with_reducible exact kH _ _))
    refine wpQuiet_nil ?_
    intro _ hw'
    obtain ⟨⟨dq, osq⟩, hw''⟩ := hw'
    subst hw''
    have hb := below_regrown w3 dq osq
    clear d0 d4 q0 q4 p0 t0 kH hd1
    have HB4 := trR HB3 hb
    have HR4 := zA ((hb.block _ (zK HR3.out)).trans HR3.out)
    clear hb HB3 HR3
    generalize Sort.grow (redrawn w3 dq) osq = w4 at *
    cases hh : hasI D x.i
    ·rw [hh, if_neg (by decide), List.nil_append] at HTk
     obtain ⟨z2, hz2, hm2, hd2⟩ := sadd z1 [10] (by simp; omega)
     have HZ : Hid (z2 = y ++ zI (P.zip V) D (T.take (q + 1))) := zA (by rw [HTk.out, hz2.out, hz1.out, HS.out]; simp)
     clear hz1 hz2 HTk HS
     go_wp2_with fail
     clear hd2
     go_roundw
     case rel => exact ⟨q + 1, z2, by omega, by go_num, rfl, HZ, HB4, HR4⟩
     case measure => simp [intOf]; omega
    ·rw [hh, if_pos rfl] at HTk
     obtain ⟨z2, hz2, hm2, hd2⟩ := sadd z1 [33] (by simp; omega)
     obtain ⟨z3, hz3, hm3, hd3⟩ := sadd z2 [10] (by simp at hm2 ⊢; omega)
     have HZ : Hid (z3 = y ++ zI (P.zip V) D (T.take (q + 1))) := zA (by rw [HTk.out, hz3.out, hz2.out, hz1.out, HS.out]; simp)
     clear hz1 hz2 hz3 HTk HS
     go_wp2_with fail
     clear hd2 hd3
     go_roundw
     case rel => exact ⟨q + 1, z3, by omega, by go_num, rfl, HZ, HB4, HR4⟩
     case measure => simp [intOf]; omega
   ·have hqe : T.take q = T := List.take_of_length_le (by omega)
    rw [hqe] at HS
    go_wp2_with fail
    go_ret
    exact ⟨by rw [← HS.out]; rfl, HBr.out⟩
 ·have HY : Hid (s2 = y) := zA (by rw [F1.out rfl, hs2.out, hs1.out])
  clear F1 F2 hs1 hs2
  go_wp2_with fail
  refine (HDg.out w2).mono ?_
  rintro e w2' ⟨rfl, hb⟩
  have HB2 := trR HB hb
  have HR2 := zA ((hb.block _ (zK HR.out)).trans HR.out)
  clear hb HB HR
  go_wp2_with fail
  clear ha1 ha2
  go_loopw [5, 6] (fun v j wr => ∃ (q : Nat) (s : List UInt8), q ≤ T.length ∧ j = .int .i64 (q : Int) ∧ v = .string ⟨s.toArray⟩ ∧ Hid (s = y ++ zI (P.zip V) D (T.take q)) ∧ Hid (Below w.heap.size w wr) ∧ Hid (wr.heap[w.heap.size]? = some (.cells #[.slice o1 T.length c1, .slice o2 P.length c2, .slice o3 V.length c3, .int .i64 dv, .slice od D.length cd, .slice og G.length cg, .slice ov W.length cv] 32 (0, 0)))) (fun _ j _ => T.length - (intOf j).toNat)
  case atStart => exact ⟨0, s2, Nat.zero_le _, rfl, rfl, by simpa [zI] using HY, HB2, HR2⟩
  case round =>
   clear HB2 HR2
   obtain ⟨q, s, hq, rfl, rfl, HS, HBr, HRr⟩ := hrel
   have c0 : wr.cell? ⟨w.heap.size, 0, none⟩ = some (.slice o1 T.length c1) := (cell_of_row _ _ 0 _ _ _ HRr.out).trans rfl
   by_cases hgo : q < T.length
   ·obtain ⟨x, hx⟩ : ∃ x, T[q]? = some x := ⟨T[q], by simp [hgo]⟩
    have htk : zI (P.zip V) D (T.take (q + 1)) = zI (P.zip V) D (T.take q) ++ perB (P.zip V) D x := by
     have e2 : T.take (q + 1) = T.take q ++ [x] := by rw [List.take_add_one, hx]; rfl
     rw [e2]
     exact textsB_snoc (P.zip V) D (T.take q) x
    have HTk := zA htk
    have hln := HLl.out x (List.mem_of_getElem? hx)
    have hzl : (T.take q).length ≤ 12 := by rw [List.length_take]; omega
    have hsl : s.length ≤ 40000 := by have h1 := HTl.out q; rw [HS.out, List.length_append]; omega
    have HL := zA (fun X h => HLn.out X h q x hx)
    have HPe : Hid (perB (P.zip V) D x = yK (P.zip V) x ++ ((if hasI D x.i = true then [33] else []) ++ [10])) := zA rfl
    rw [HPe.out] at HTk
    clear HPe htk
    have HX := zA hx
    clear hx hzl
    generalize yK (P.zip V) x = ln at *
    obtain ⟨z1, hz1, hm1, hd1⟩ := sadd s ln (by omega)
    have c1' : wr.cell? ⟨w.heap.size, 1, none⟩ = some (.slice o2 P.length c2) := (cell_of_row _ _ 1 _ _ _ HRr.out).trans rfl
    have c2' : wr.cell? ⟨w.heap.size, 2, none⟩ = some (.slice o3 V.length c3) := (cell_of_row _ _ 2 _ _ _ HRr.out).trans rfl
    go_wp2_with fail
    refine (HL.out wr HBr.out).mono ?_
    rintro e w3 ⟨rfl, hb⟩
    have HB3 := trR HBr hb
    have HR3 := zA ((hb.block _ (zK HRr.out)).trans HRr.out)
    clear hb HBr HRr c0 c1' c2' HL
    obtain ⟨A, ho1, t0, -⟩ := HTa.out w3 HB3.out q x HX.out
    subst ho1
    have d0 : w3.cell? ⟨w.heap.size, 0, none⟩ = some (.slice (some A) T.length c1) := (cell_of_row _ _ 0 _ _ _ HR3.out).trans rfl
    have d4 : w3.cell? ⟨w.heap.size, 4, none⟩ = some (.slice od D.length cd) := (cell_of_row _ _ 4 _ _ _ HR3.out).trans rfl
    have q0 := cell_regrown d0
    have q4 := cell_regrown d4
    have p0 := cell_regrown t0
    have kH : ∀ d os, Calls Tryz.prog 36 #[.slice od D.length cd, .int .i64 x.i] (Sort.grow (redrawn w3 d) os) fun e w'' => e = .returned (.bool (hasI D x.i)) ∧ ∃ p : Regrown, w'' = Sort.grow (redrawn w3 p.d) p.os := fun d os => Calls.regrown_of (HDn.out _ (HB3.out.trans ((below_regrown w3 d os).mono HB3.out.size)) x.i)
    go_wp2_with fail
    refine wp_region_quiet_below (by kernel_rfl) (by kernel_rfl) ?_
    repeat (go_big_quiet_step (first | with_reducible exact kH _ _))
    refine wpQuiet_nil ?_
    intro _ hw'
    obtain ⟨⟨dq, osq⟩, hw''⟩ := hw'
    subst hw''
    have hb := below_regrown w3 dq osq
    clear d0 d4 q0 q4 p0 t0 kH hd1
    have HB4 := trR HB3 hb
    have HR4 := zA ((hb.block _ (zK HR3.out)).trans HR3.out)
    clear hb HB3 HR3
    generalize Sort.grow (redrawn w3 dq) osq = w4 at *
    cases hh : hasI D x.i
    ·rw [hh, if_neg (by decide), List.nil_append] at HTk
     obtain ⟨z2, hz2, hm2, hd2⟩ := sadd z1 [10] (by simp; omega)
     have HZ : Hid (z2 = y ++ zI (P.zip V) D (T.take (q + 1))) := zA (by rw [HTk.out, hz2.out, hz1.out, HS.out]; simp)
     clear hz1 hz2 HTk HS
     go_wp2_with fail
     clear hd2
     go_roundw
     case rel => exact ⟨q + 1, z2, by omega, by go_num, rfl, HZ, HB4, HR4⟩
     case measure => simp [intOf]; omega
    ·rw [hh, if_pos rfl] at HTk
     obtain ⟨z2, hz2, hm2, hd2⟩ := sadd z1 [33] (by simp; omega)
     obtain ⟨z3, hz3, hm3, hd3⟩ := sadd z2 [10] (by simp at hm2 ⊢; omega)
     have HZ : Hid (z3 = y ++ zI (P.zip V) D (T.take (q + 1))) := zA (by rw [HTk.out, hz3.out, hz2.out, hz1.out, HS.out]; simp)
     clear hz1 hz2 hz3 HTk HS
     go_wp2_with fail
     clear hd2 hd3
     go_roundw
     case rel => exact ⟨q + 1, z3, by omega, by go_num, rfl, HZ, HB4, HR4⟩
     case measure => simp [intOf]; omega
   ·have hqe : T.take q = T := List.take_of_length_le (by omega)
    rw [hqe] at HS
    go_wp2_with fail
    go_ret
    exact ⟨by rw [← HS.out]; rfl, HBr.out⟩
#print axioms textOf_any
theorem zV.set {w : World} {B : Nat} {o : Option Addr} {n c : Nat} {L : List GT} (h : zV w o L) (hf : yD B (.slice o n c)) (hg : ∀ g ∈ L, yD B (.slice g.oa g.A.length g.ca) ∧ yD B (.slice g.od g.D.length g.cd)) {p : Addr} (hp : p.block < B) (u : Value) : zV (w.setCell p u) o L := by
 intro i g hi
 obtain ⟨b, rfl, h8, h1, h2⟩ := h i g hi
 have hb : B ≤ b.block := hf _ rfl
 have hm := hg g (List.mem_of_getElem? hi)
 refine ⟨b, rfl, ⟨at_set (by omega) h8.c0, zR (by omega) h8.c1, zR (by omega) h8.c2, zR (by omega) h8.c3, zR (by omega) h8.c4, zR (by omega) h8.c5, zR (by omega) h8.c6, zR (by omega) h8.c7⟩, h1.set hm.1 hp u, h2.set hm.2 hp u⟩
theorem gatesAt_own {w : World} {B Q c : Nat} {G : List GT} (h : w.ownsRow B 47 8 (.slice (some ⟨Q, 0, none⟩) G.length c) G.length (zL G)) (hl : ∀ g ∈ G, yR w (.slice g.oa g.A.length g.ca) g.A ∧ yQ w (.slice g.od g.D.length g.cd) g.D) : zV w (some ⟨Q, 0, none⟩) G := by
 intro i g hi
 have hc : ∀ j, j < 8 → w.cell? ⟨Q, i * 8 + j, none⟩ = g.cells[j]? := fun j hj => by
  rw [h.cellAt (i * 8 + j) (by have := (List.getElem?_eq_some_iff.1 hi).1; omega)]
  exact cellsG_get G i g hi j hj
 have hm := hl g (List.mem_of_getElem? hi)
 refine ⟨_, rfl, ?_, hm.1, hm.2⟩
 rw [own_addrZ]
 exact ⟨hc 0 (by omega), hc 1 (by omega), hc 2 (by omega), hc 3 (by omega), hc 4 (by omega), hc 5 (by omega), hc 6 (by omega), hc 7 (by omega)⟩
theorem own_lit {w : World} {B b n size : Nat} {e : TypeId} {cs : Array Value} (h : w.heap[b]? = some (.cells cs e)) (hB : B ≤ b) (hn : n ≤ 1000) (hs : cs.size = n * size) : w.ownsRow B e size (.slice (some ⟨b, 0, none⟩) n n) n cs.toList :=
 ⟨by simpa using hs, .inr ⟨b, n, cs, rfl, hB, h, Nat.le_refl _, by unfold maxLen; omega, hs, List.take_of_length_le (by rw [Array.length_toList, hs]; exact Nat.le_refl _)⟩⟩
theorem newStation_any (w : World) : Calls Tryz.prog 61 #[] w fun e w' => (∃ og cg ov cv, e = .returned (stV none none none 0 0 0 0 0 0 0 none 0 0 og 3 cg ov 3 cv) ∧ (zV w' og newG ∧ 3 ≤ cg ∧ (og = none → cg = 0) ∧ yD w.heap.size (.slice og 3 cg)) ∧ VwsV w' (.slice ov 3 cv) newV ∧ yD w.heap.size (.slice ov 3 cv)) ∧ Below w.heap.size w w' := by
 have HB := zA (((((zM.nil w).more (.cells #[.slice none 0 0, .slice none 0 0, .slice none 0 0, .int .i64 0, .slice none 0 0, .slice (some ⟨w.heap.size + 1 + 1, 0, none⟩) 3 3, .slice (some ⟨w.heap.size + 1 + 1 + 1, 0, none⟩) 3 3] 32) (by simp)).more (.cells #[.int .i64 9, .int .i64 100] 45) (by simp)).more (.cells #[.int .i64 0, .int .i64 1, .int .i64 0, .slice none 0 0, .int .i64 0, .slice none 0 0, .int .i64 9, .int .i64 100, .int .i64 1, .int .i64 2, .int .i64 0, .slice none 0 0, .int .i64 0, .slice none 0 0, .int .i64 9, .int .i64 100, .int .i64 2, .int .i64 4, .int .i64 0, .slice none 0 0, .int .i64 0, .slice none 0 0, .int .i64 9, .int .i64 100] 47) (by simp)).more (.cells #[.int .i64 0, .int .i64 0, .bool true, .int .i64 0, .int .i64 0, .bool true, .int .i64 0, .int .i64 0, .bool true] 109) (by simp))
 go_enter Tryz.func61, Tryz.ntmps61
 go_wp2_with fail
 refine bodyPost_ret (v := stV none none none 0 0 0 0 0 0 0 none 0 0 (some ⟨w.heap.size + 1 + 1, 0, none⟩) 3 3 (some ⟨w.heap.size + 1 + 1 + 1, 0, none⟩) 3 3) (by simp [results, Tryz.results61, go_sem]) rfl ⟨⟨_, _, _, _, rfl, ⟨?_, Nat.le_refl _, (fun h => by cases h), ?_⟩, ?_, ?_⟩, HB.out.2.2⟩
 ·have h := own_lit (B := 0) (n := 3) (size := 8) (HB.out.1 2 _ rfl) (Nat.zero_le _) (by omega) rfl
  refine gatesAt_own (B := 0) (c := 3) (G := newG) h (fun g hg => ?_)
  simp only [newG, List.mem_cons, List.not_mem_nil, or_false] at hg
  rcases hg with rfl | rfl | rfl <;> exact ⟨tapsV_nil _, intsV_nil _⟩
 ·intro k hk
  simp [Value.ownBlock] at hk
  omega
 ·exact vwsV_own (base := 0) (L := newV) (own_lit (B := 0) (n := 3) (size := 3) (HB.out.1 3 _ rfl) (Nat.zero_le _) (by omega) rfl)
 ·intro k hk
  simp [Value.ownBlock] at hk
  omega
def hallT : List TK := [⟨1, 1, 10, 500, 15, 0⟩]
def hallW : List VW := [⟨1, 0, true⟩, ⟨1, 0, true⟩, ⟨1, 0, true⟩]
theorem hall_any (w : World) : Calls Tryz.prog 38 #[] w fun e w' => (∃ o1 c1 og cg ov cv, e = .returned (stV o1 none none 1 c1 0 0 0 0 0 none 0 0 og 3 cg ov 3 cv) ∧ StW w' o1 none none c1 0 0 hallT [] [] none 0 [] og cg newG ov cv hallW ∧ yD w.heap.size (.slice ov 3 cv)) ∧ Below w.heap.size w w' := by
 have HB := zA ((zM.nil w).more (.cells #[.slice none 0 0, .slice none 0 0, .slice none 0 0, .int .i64 0, .slice none 0 0, .slice none 0 0, .slice none 0 0] 32) (by simp))
 go_enter Tryz.func38, Tryz.ntmps38
 go_wp2_with fail
 refine (newStation_any _).mono ?_
 rintro e w1 ⟨⟨og, cg, ov, cv, rfl, ⟨hG, hcg, hng, hgf⟩, -, -⟩, hb⟩
 have HB1 := zA (HB.out.on hb)
 have HG1 := zA hG
 have HGf : Hid (yD (w.heap.size + 1) (.slice og 3 cg)) := zA (hgf.mono (by simp))
 have hw01 : w.heap.size < w1.heap.size := HB1.out.2.1
 clear hb hG hgf HB
 have HX := zA (((zM.nil w1).more (.cells #[.slice none 0 0, .slice none 0 0, .slice none 0 0, .int .i64 0, .slice none 0 0, .slice og 3 cg, .slice (some ⟨w1.heap.size + 1, 0, none⟩) 3 3] 32) (by simp)).more (.cells #[.int .i64 1, .int .i64 0, .bool true, .int .i64 1, .int .i64 0, .bool true, .int .i64 1, .int .i64 0, .bool true] 109) (by simp))
 have HB2 := zA (HB1.out.on HX.out.2.2)
 clear HB1
 go_wp2_with fail
 refine (single_any _ _).mono ?_
 rintro e w2 ⟨rfl, hb⟩
 have HX2 := zA (HX.out.on hb)
 have HB3 := zA (HB2.out.on hb)
 clear hb HX HB2
 obtain ⟨b0, b1, b2, b3, b4, b5, b6⟩ := HB3.out.c7 0 w.heap.size rfl rfl rfl rfl rfl rfl rfl rfl rfl
 obtain ⟨f0, f1, f2, f3, f4, f5, f6⟩ := HB3.out.z7 0 w.heap.size rfl rfl
 obtain ⟨x0, x1, x2, x3, x4, x5, x6⟩ := HX2.out.c7 0 w1.heap.size rfl rfl rfl rfl rfl rfl rfl rfl rfl
 have y0 := HX2.out.frozen 0 0 w1.heap.size _ _ rfl rfl
 have hs1 : w.heap.size + 1 ≤ w2.heap.size := HB3.out.2.1
 have hs2 : w1.heap.size + 1 + 1 ≤ w2.heap.size := HX2.out.2.1
 have hs3 : w1.heap.size < w2.heap.size := by omega
 have hs4 : w.heap.size < w2.heap.size := by omega
 have hs5 : w.heap.size < w1.heap.size := hw01
 go_wp2_with fail
 have hgl : ∀ g ∈ newG, yD (w.heap.size + 1) (.slice g.oa g.A.length g.ca) ∧ yD (w.heap.size + 1) (.slice g.od g.D.length g.cd) := by
  intro g hg
  simp only [newG, List.mem_cons, List.not_mem_nil, or_false] at hg
  rcases hg with rfl | rfl | rfl <;> exact ⟨fun k hk => by simp [Value.ownBlock, gt0] at hk, fun k hk => by simp [Value.ownBlock, gt0] at hk⟩
 have HGa := zA (HG1.out.below (HX2.out.2.2.setCell (p := ⟨w1.heap.size, 0, none⟩) (Nat.le_refl _) (.slice (some ⟨w2.heap.size, 0, none⟩) 1 1)))
 have HGb := zA (((((((HGa.out.set HGf.out hgl (p := ⟨w.heap.size, 0, none⟩) (by simp) (.slice (some ⟨w2.heap.size, 0, none⟩) 1 1)).set HGf.out hgl (p := ⟨w.heap.size, 1, none⟩) (by simp) (.slice none 0 0)).set HGf.out hgl (p := ⟨w.heap.size, 2, none⟩) (by simp) (.slice none 0 0)).set HGf.out hgl (p := ⟨w.heap.size, 3, none⟩) (by simp) (.int .i64 0)).set HGf.out hgl (p := ⟨w.heap.size, 4, none⟩) (by simp) (.slice none 0 0)).set HGf.out hgl (p := ⟨w.heap.size, 5, none⟩) (by simp) (.slice og 3 cg)).set HGf.out hgl (p := ⟨w.heap.size, 6, none⟩) (by simp) (.slice (some ⟨w1.heap.size + 1, 0, none⟩) 3 3))
 have HVb := zA (yJ (yJ (yJ (yJ (yJ (yJ (yJ (yJ (HX2.out.1 1 _ rfl) (p := ⟨w1.heap.size, 0, none⟩) (by simp) (.slice (some ⟨w2.heap.size, 0, none⟩) 1 1)) (p := ⟨w.heap.size, 0, none⟩) (by simp; omega) (.slice (some ⟨w2.heap.size, 0, none⟩) 1 1)) (p := ⟨w.heap.size, 1, none⟩) (by simp; omega) (.slice none 0 0)) (p := ⟨w.heap.size, 2, none⟩) (by simp; omega) (.slice none 0 0)) (p := ⟨w.heap.size, 3, none⟩) (by simp; omega) (.int .i64 0)) (p := ⟨w.heap.size, 4, none⟩) (by simp; omega) (.slice none 0 0)) (p := ⟨w.heap.size, 5, none⟩) (by simp; omega) (.slice og 3 cg)) (p := ⟨w.heap.size, 6, none⟩) (by simp; omega) (.slice (some ⟨w1.heap.size + 1, 0, none⟩) 3 3))
 have HZb := zA (heap_setCell_same _ w.heap.size 6 _ _ (.slice (some ⟨w1.heap.size + 1, 0, none⟩) 3 3) (heap_setCell_same _ w.heap.size 5 _ _ (.slice og 3 cg) (heap_setCell_same _ w.heap.size 4 _ _ (.slice none 0 0) (heap_setCell_same _ w.heap.size 3 _ _ (.int .i64 0) (heap_setCell_same _ w.heap.size 2 _ _ (.slice none 0 0) (heap_setCell_same _ w.heap.size 1 _ _ (.slice none 0 0) (heap_setCell_same _ w.heap.size 0 _ _ (.slice (some ⟨w2.heap.size, 0, none⟩) 1 1) (yJ (HB3.out.1 0 _ rfl) (p := ⟨w1.heap.size, 0, none⟩) (by simp; omega) (.slice (some ⟨w2.heap.size, 0, none⟩) 1 1)))))))))
 have HBb := zA ((((((((HB3.out.2.2.setCell (p := ⟨w1.heap.size, 0, none⟩) (by simp; omega) (.slice (some ⟨w2.heap.size, 0, none⟩) 1 1)).setCell (p := ⟨w.heap.size, 0, none⟩) (by simp) (.slice (some ⟨w2.heap.size, 0, none⟩) 1 1)).setCell (p := ⟨w.heap.size, 1, none⟩) (by simp) (.slice none 0 0)).setCell (p := ⟨w.heap.size, 2, none⟩) (by simp) (.slice none 0 0)).setCell (p := ⟨w.heap.size, 3, none⟩) (by simp) (.int .i64 0)).setCell (p := ⟨w.heap.size, 4, none⟩) (by simp) (.slice none 0 0)).setCell (p := ⟨w.heap.size, 5, none⟩) (by simp) (.slice og 3 cg)).setCell (p := ⟨w.heap.size, 6, none⟩) (by simp) (.slice (some ⟨w1.heap.size + 1, 0, none⟩) 3 3))
 have hsz : ((((((((w2.setCell ⟨w1.heap.size, 0, none⟩ (.slice (some ⟨w2.heap.size, 0, none⟩) 1 1)).setCell ⟨w.heap.size, 0, none⟩ (.slice (some ⟨w2.heap.size, 0, none⟩) 1 1)).setCell ⟨w.heap.size, 1, none⟩ (.slice none 0 0)).setCell ⟨w.heap.size, 2, none⟩ (.slice none 0 0)).setCell ⟨w.heap.size, 3, none⟩ (.int .i64 0)).setCell ⟨w.heap.size, 4, none⟩ (.slice none 0 0)).setCell ⟨w.heap.size, 5, none⟩ (.slice og 3 cg)).setCell ⟨w.heap.size, 6, none⟩ (.slice (some ⟨w1.heap.size + 1, 0, none⟩) 3 3)).heap.size = w2.heap.size := by simp only [World.size_setCell]
 have HA := zA ((Below.refl _ ((((((((w2.setCell ⟨w1.heap.size, 0, none⟩ (.slice (some ⟨w2.heap.size, 0, none⟩) 1 1)).setCell ⟨w.heap.size, 0, none⟩ (.slice (some ⟨w2.heap.size, 0, none⟩) 1 1)).setCell ⟨w.heap.size, 1, none⟩ (.slice none 0 0)).setCell ⟨w.heap.size, 2, none⟩ (.slice none 0 0)).setCell ⟨w.heap.size, 3, none⟩ (.int .i64 0)).setCell ⟨w.heap.size, 4, none⟩ (.slice none 0 0)).setCell ⟨w.heap.size, 5, none⟩ (.slice og 3 cg)).setCell ⟨w.heap.size, 6, none⟩ (.slice (some ⟨w1.heap.size + 1, 0, none⟩) 3 3))).alloc (Nat.le_refl _) (.cells #[.int .i64 1, .int .i64 1, .int .i64 10, .int .i64 500, .int .i64 15, .int .i64 0] 51))
 have hN : (((((((((w2.setCell ⟨w1.heap.size, 0, none⟩ (.slice (some ⟨w2.heap.size, 0, none⟩) 1 1)).setCell ⟨w.heap.size, 0, none⟩ (.slice (some ⟨w2.heap.size, 0, none⟩) 1 1)).setCell ⟨w.heap.size, 1, none⟩ (.slice none 0 0)).setCell ⟨w.heap.size, 2, none⟩ (.slice none 0 0)).setCell ⟨w.heap.size, 3, none⟩ (.int .i64 0)).setCell ⟨w.heap.size, 4, none⟩ (.slice none 0 0)).setCell ⟨w.heap.size, 5, none⟩ (.slice og 3 cg)).setCell ⟨w.heap.size, 6, none⟩ (.slice (some ⟨w1.heap.size + 1, 0, none⟩) 3 3)).alloc (.cells #[.int .i64 1, .int .i64 1, .int .i64 10, .int .i64 500, .int .i64 15, .int .i64 0] 51)).heap[w2.heap.size]? = some (.cells #[.int .i64 1, .int .i64 1, .int .i64 10, .int .i64 500, .int .i64 15, .int .i64 0] 51) := by
  have h := heap_alloc_new ((((((((w2.setCell ⟨w1.heap.size, 0, none⟩ (.slice (some ⟨w2.heap.size, 0, none⟩) 1 1)).setCell ⟨w.heap.size, 0, none⟩ (.slice (some ⟨w2.heap.size, 0, none⟩) 1 1)).setCell ⟨w.heap.size, 1, none⟩ (.slice none 0 0)).setCell ⟨w.heap.size, 2, none⟩ (.slice none 0 0)).setCell ⟨w.heap.size, 3, none⟩ (.int .i64 0)).setCell ⟨w.heap.size, 4, none⟩ (.slice none 0 0)).setCell ⟨w.heap.size, 5, none⟩ (.slice og 3 cg)).setCell ⟨w.heap.size, 6, none⟩ (.slice (some ⟨w1.heap.size + 1, 0, none⟩) 3 3)) (.cells #[.int .i64 1, .int .i64 1, .int .i64 10, .int .i64 500, .int .i64 15, .int .i64 0] 51)
  rwa [hsz] at h
 have HN := zA hN
 have HGc := zA (HGb.out.below HA.out)
 have HVc := zA (at_below HVb.out HA.out)
 have HZc := zA (at_below HZb.out HA.out)
 have HBc := zA (HBb.out.trans (HA.out.mono (by rw [hsz]; omega)))
 clear HGa HGb HVb HZb HBb HA hsz hN HG1 HX2 HB3 b0 b1 b2 b3 b4 b5 b6 f0 f1 f2 f3 f4 f5 f6 x0 x1 x2 x3 x4 x5 x6 y0
 generalize (((((((((w2.setCell ⟨w1.heap.size, 0, none⟩ (.slice (some ⟨w2.heap.size, 0, none⟩) 1 1)).setCell ⟨w.heap.size, 0, none⟩ (.slice (some ⟨w2.heap.size, 0, none⟩) 1 1)).setCell ⟨w.heap.size, 1, none⟩ (.slice none 0 0)).setCell ⟨w.heap.size, 2, none⟩ (.slice none 0 0)).setCell ⟨w.heap.size, 3, none⟩ (.int .i64 0)).setCell ⟨w.heap.size, 4, none⟩ (.slice none 0 0)).setCell ⟨w.heap.size, 5, none⟩ (.slice og 3 cg)).setCell ⟨w.heap.size, 6, none⟩ (.slice (some ⟨w1.heap.size + 1, 0, none⟩) 3 3)).alloc (.cells #[.int .i64 1, .int .i64 1, .int .i64 10, .int .i64 500, .int .i64 15, .int .i64 0] 51)) = w4 at *
 have g0 := cell_of_row _ _ 0 _ _ _ HZc.out
 have g1 := cell_of_row _ _ 1 _ _ _ HZc.out
 have g2 := cell_of_row _ _ 2 _ _ _ HZc.out
 have g3 := cell_of_row _ _ 3 _ _ _ HZc.out
 have g4 := cell_of_row _ _ 4 _ _ _ HZc.out
 have g5 := cell_of_row _ _ 5 _ _ _ HZc.out
 have g6 := cell_of_row _ _ 6 _ _ _ HZc.out
 simp at g0 g1 g2 g3 g4 g5 g6
 refine bodyPost_ret (v := stV (some ⟨w2.heap.size, 0, none⟩) none none 1 1 0 0 0 0 0 none 0 0 og 3 cg (some ⟨w1.heap.size + 1, 0, none⟩) 3 3) (by simp [results, Tryz.results38, go_sem, g0, g1, g2, g3, g4, g5, g6]) rfl ⟨⟨_, _, _, _, _, _, rfl, ?_, fun k hk => by simp only [Value.ownBlock, Option.some.injEq] at hk; omega⟩, HBc.out⟩
 have hT : TiksV w4 (.slice (some ⟨w2.heap.size, 0, none⟩) 1 1) hallT := tiksV_own (base := 0) (L := hallT) (own_lit (B := 0) (n := 1) (size := 6) HN.out (Nat.zero_le _) (by omega) rfl)
 have hW : VwsV w4 (.slice (some ⟨w1.heap.size + 1, 0, none⟩) 3 3) hallW := vwsV_own (base := 0) (L := hallW) (own_lit (B := 0) (n := 3) (size := 3) HVc.out (Nat.zero_le _) (by omega) rfl)
 exact ⟨LedV.of hT (tapsV_nil _) (intsV_nil _), ⟨by simp [hallT], by simp, by simp⟩, ⟨fun i p h => by simp at h, by simp, by simp, fun _ => rfl⟩, HGc.out, fun g hg => by
  simp only [newG, List.mem_cons, List.not_mem_nil, or_false] at hg
  rcases hg with rfl | rfl | rfl <;> simp [gt0], hcg, hng, by simp [newG], hW.eqs.2.1, by simp [hallW], (fun h => by cases h), by simp [hallW]⟩
theorem lineVv {w : World} {v : Value} {T : List TK} {P : List TP} {V : List Int} (h : LedV w v T P V) (hl : LensOk T P V) (hI : ItoaOk w) (id : Int) : Calls Tryz.prog 5 #[v, .int .i64 id] w fun e w' => e = .returned (.tuple #[.string ⟨(lineV T P V id).1.toArray⟩, .int .i64 (lineV T P V id).2]) ∧ Below w.heap.size w w' := by
 obtain ⟨o1, c1, o2, c2, o3, c3, rfl, a1, a2, a3, ⟨-, l2, l3⟩, -⟩ := h.opened
 exact line_any T P V id o1 o2 o3 c1 c2 c3 w hI a1 a2 a3 hl.1 hl.2.1 hl.2.2 l2 l3
def pvB : List UInt8 := (zZ 1 1 10 500 15 0).1
theorem itD_0 : itD 0 = [48] := itD_small (by decide) (by decide)
theorem itD_1 : itD 1 = [49] := itD_small (by decide) (by decide)
theorem itD_20 : itD 20 = [50, 48] := by
 rw [itD_step (by decide), show (20 : Int) / 10 = 2 by decide, show (20 : Int) % 10 = 0 by decide, itD_small (n := 2) (by decide) (by decide), itD_0]
 decide
theorem itD_60 : itD 60 = [54, 48] := by
 rw [itD_step (by decide), show (60 : Int) / 10 = 6 by decide, show (60 : Int) % 10 = 0 by decide, itD_small (n := 6) (by decide) (by decide), itD_0]
 decide
theorem begunLine : lineV bookT bookP bookV 1 = (pvB ++ [32, 49, 47, 48, 32, 114, 48, 64, 50, 48, 32, 99, 49, 64, 54, 48], 0) := by
 have h0 : zQ bookT bookP bookV = 0 := by decide +kernel
 have hi : idxT bookT 1 = 0 := by decide +kernel
 unfold lineV
 rw [if_neg (by simp [h0]), hi, if_neg (by decide)]
 have hx : bookT.getD (0 : Int).toNat tk0 = ⟨1, 1, 10, 500, 15, 0⟩ := rfl
 rw [hx]
 have hm : yA (bookP.zip bookV) 1 = (1, 20) := by decide +kernel
 have hr : allR 1 0 - 1 = 0 := by decide
 unfold yK headB
 simp only [hm, hr, itD_0, itD_1]
 have hz : bookP.zip bookV = [(⟨1, 0, 1, 20, 1⟩, 1), (⟨1, 1, 1, 60, 1⟩, 2)] := rfl
 rw [hz]
 simp [yC, rtapB, itD_0, itD_1, itD_20, itD_60, pvB]
theorem begunText : textV hallT [] [] 0 [] newG hallW = ([108, 101, 97, 100, 101, 114, 32, 48, 10] ++ pvB ++ [32, 48, 47, 49, 10], 0) := by
 have h0 : chkS hallT [] [] 0 [] newG hallW = 0 := by decide +kernel
 unfold textV
 rw [if_neg (by simp [h0])]
 have hb : nowB hallW = true := by decide +kernel
 have hn : nowI hallW = 0 := by decide +kernel
 have hm : yA (([] : List TP).zip ([] : List Int)) 1 = (0, -1) := rfl
 have hr : allR 1 0 - 0 = 1 := by decide
 have hd : hasI [] 1 = false := rfl
 unfold topB leadB hallT
 rw [hb, hn, if_pos rfl, itD_0]
 simp only [zI, List.flatMap_cons, List.flatMap_nil, perB, yK, headB, hm, hr, hd, itD_0, itD_1]
 simp [yC, pvB]
theorem reportBegun_any (w : World) (hI : ItoaOk w) : Calls Tryz.prog 12 #[] w fun e w' => e = .returned (.bool true) ∧ Below w.heap.size w w' := by
 have HI := zA hI
 clear hI
 have HC := zA (fun W => codeOf_any ⟨1, 1, 10, 500, 15, 0⟩ (by decide +kernel) W)
 have hpl : pvB.length ≤ 14 := printV_len ..
 have h1 := begunLine
 have h2 := begunText
 obtain ⟨l1, hl1, hn1, ha1⟩ := sadd pvB [32, 49, 47, 48, 32, 114, 48, 64, 50, 48, 32, 99, 49, 64, 54, 48] (by simp; omega)
 obtain ⟨m1, hm1, hn2, ha2⟩ := sadd [108, 101, 97, 100, 101, 114, 32, 48, 10] pvB (by simp; omega)
 obtain ⟨t1, ht1, hn3, ha3⟩ := sadd m1 [32, 48, 47, 49, 10] (by simp at hn2 ⊢; omega)
 rw [← hl1.out] at h1
 rw [← hm1.out, ← ht1.out] at h2
 have H1 := zA h1
 have H2 := zA h2
 clear h1 h2 hl1 hm1 ht1 hn1 hn2 hn3
 have HP : Hid ((zZ 1 1 10 500 15 0).1 = pvB) := zA rfl
 dsimp only at HC
 rw [HP.out] at HC
 clear HP
 generalize pvB = pb at *
 go_enter Tryz.func12, Tryz.ntmps12
 go_wp2_with fail
 refine (book_any _).mono ?_
 rintro e w1 ⟨⟨vb, rfl, hvb⟩, hb⟩
 have HB := zA hb
 have HV := zA hvb
 clear hb hvb
 go_wp2_with fail
 refine (lineVv HV.out book_lens (HI.out.on HB.out) 1).mono ?_
 rintro e w2 ⟨rfl, hb⟩
 have HB2 := trR HB hb
 clear hb HB HV
 rw [H1.out]
 go_wp2_with fail
 refine (hall_any _).mono ?_
 rintro e w3 ⟨⟨o1, c1, og, cg, ov, cv, rfl, hs, -⟩, hb⟩
 have HB3 := trR HB2 hb
 have HS := zA hs
 clear hb HB2 hs
 go_wp2_with fail
 refine (text_any hallT [] [] 0 [] newG hallW o1 none none none og ov c1 0 0 0 cg cv w3 (HI.out.on HB3.out) HS.out).mono ?_
 rintro e w4 ⟨rfl, hb⟩
 have HB4 := trR HB3 hb
 clear hb HB3 HS
 rw [H2.out]
 go_wp2_with fail
 refine (single_any _ _).mono ?_
 rintro e w5 ⟨rfl, hb⟩
 have HB5 := trR HB4 hb
 clear hb HB4
 go_wp2_with fail
 refine (HC.out w5).mono ?_
 rintro e w6 ⟨rfl, hb⟩
 have HB6 := trR HB5 hb
 clear hb HB5
 go_wp2_with fail
 refine (single_any _ _).mono ?_
 rintro e w7 ⟨rfl, hb⟩
 have HB7 := trR HB6 hb
 clear hb HB6
 go_wp2_with fail
 refine (HC.out w7).mono ?_
 rintro e w8 ⟨rfl, hb⟩
 have HB8 := trR HB7 hb
 clear hb HB7
 go_wp2_with fail
 go_ret
 exact ⟨by simp, HB8.out⟩
#print axioms reportBegun_any
def GT.bare (g : GT) : GT := { g with v := 0, od := none, D := [], cd := 0, l := 0, u := 0 }
theorem gateE_bare {dv : Int} {P : List TP} {q : Nat} {g : GT} (hd : 0 ≤ dv) (h : gateE dv P q g = 0) : gateE dv P q g.bare = 0 := by
 unfold gateE at h ⊢
 by_cases h1 : chkG g.i g.z g.s g.A g.v g.D g.l g.u = 0
 ·rw [if_pos h1] at h
  have h1' : chkG g.i g.z g.s g.A 0 [] 0 0 = 0 := by
   unfold chkG at h1 ⊢
   by_cases e1 : errS g.i g.z g.s g.A.length = 0
   ·rw [if_pos e1] at h1 ⊢
    by_cases e2 : yT g.i g.z g.s g.A = 0
    ·rw [if_pos e2] at h1 ⊢
     rw [if_pos (by decide)]
     decide
    ·rw [if_neg e2] at h1; exact absurd h1 e2
   ·rw [if_neg e1] at h1; exact absurd h1 e1
  by_cases h2 : g.i = (q : Int) ∧ ¬ dv < g.v
  ·rw [if_pos h2] at h
   show (if chkG g.i g.z g.s g.A 0 [] 0 0 = 0 then (if g.i = (q : Int) ∧ ¬ dv < 0 then (if P.any (twiG g.i g.s g.A) = true then 6 else 0) else 4) else chkG g.i g.z g.s g.A 0 [] 0 0) = 0
   rw [if_pos h1', if_pos ⟨h2.1, by omega⟩]
   exact h
  ·rw [if_neg h2] at h; cases h
 ·rw [if_neg h1] at h; exact absurd h h1
theorem chkS_bare {T : List TK} {P : List TP} {V : List Int} {dv : Int} {D : List Int} {G : List GT} {W : List VW} (h : chkS T P V dv D G W = 0) : chkS T P V dv D (G.map GT.bare) W = 0 := by
 have hr := chkS_right h
 have hd := (chkD_right hr.2.1).1
 have hg : yM dv P (G.map GT.bare) = 0 := by
  unfold yM
  rw [if_pos (by rw [List.length_map]; exact hr.2.2.1)]
  refine gatesF_zero dv P (G.map GT.bare) 0 (fun i x hx => ?_)
  rw [Nat.zero_add]
  rw [List.getElem?_map, Option.map_eq_some_iff] at hx
  obtain ⟨g, hg, rfl⟩ := hx
  exact gateE_bare hd (hr.2.2.2.1 i g hg)
 unfold chkS
 rw [if_pos hr.1, if_pos hr.2.1, hg, if_pos rfl]
 exact hr.2.2.2.2.1
def cntL (l : List UInt8) : Nat := (l.filter (fun b => b == 10)).length
def noL (l : List UInt8) : Prop := ∀ b ∈ l, b ≠ 10
theorem cntL_app (a b : List UInt8) : cntL (a ++ b) = cntL a + cntL b := by simp [cntL]
theorem cntL_no {l : List UInt8} (h : noL l) : cntL l = 0 := by
 unfold cntL
 rw [List.length_eq_zero_iff, List.filter_eq_nil_iff]
 intro b hb
 simpa using h b hb
theorem noL_app {a b : List UInt8} (ha : noL a) (hb : noL b) : noL (a ++ b) := fun x hx => (List.mem_append.1 hx).elim (ha x) (hb x)
theorem noL_nil : noL [] := fun b hb => by cases hb
theorem noL_cons {a : UInt8} {l : List UInt8} (ha : a ≠ 10) (hl : noL l) : noL (a :: l) := fun b hb => by
 rcases List.mem_cons.1 hb with rfl | h
 ·exact ha
 ·exact hl b h
theorem digit_ne : ∀ k : Fin 10, UInt8.ofNat (48 + k.val) ≠ 10 := by decide +kernel
theorem dec_no (u : Nat) : noL (Lib.decDigits u) := by
 induction u using Nat.strongRecOn with
 | _ u ih =>
  rw [Lib.decDigits]
  split
  ·exact noL_cons (digit_ne ⟨u, by assumption⟩) noL_nil
  ·exact noL_app (ih (u / 10) (by omega)) (noL_cons (digit_ne ⟨u % 10, by omega⟩) noL_nil)
theorem itD_no (n : Int) : noL (itD n) := dec_no _
theorem sgn_no : ∀ v : Fin 31, sgn v.val ≠ 10 := by decide +kernel
theorem printV_no (i k f t z r : Int) : noL (zZ i k f t z r).1 := by
 unfold zZ
 split
 ·intro b hb
  simp only [codeL, List.mem_map] at hb
  obtain ⟨v, hv, rfl⟩ := hb
  exact sgn_no ⟨v, codeD_lt _ v hv⟩
 ·exact noL_nil
theorem lineB_no (X : List (TP × Int)) (x : TK) : noL (yK X x) := by
 unfold yK headB
 refine noL_app (noL_app (printV_no x.i x.k x.f x.t x.z x.r) (noL_app (noL_cons (by decide) noL_nil) (noL_app (itD_no _) (noL_app (noL_cons (by decide) noL_nil) (itD_no _))))) ?_
 intro b hb
 simp only [yC, List.mem_flatMap] at hb
 obtain ⟨y, -, hy⟩ := hb
 split at hy
 ·refine (?_ : noL (rtapB y.1 y.2)) b hy
  unfold rtapB
  refine noL_app (noL_cons (by decide) noL_nil) (noL_app ?_ (noL_app (itD_no _) (noL_app (noL_cons (by decide) noL_nil) (itD_no _))))
  split <;> exact noL_cons (by decide) noL_nil
 ·cases hy
theorem cnt_text (X : List (TP × Int)) (D : List Int) (W : List VW) (T : List TK) : cntL (topB W ++ zI X D T) = T.length + 1 := by
 have h1 : cntL (topB W) = 1 := by
  unfold topB
  have hl : noL (leadB W) := by
   unfold leadB
   split
   ·exact itD_no _
   ·exact noL_cons (by decide) noL_nil
  rw [cntL_app, cntL_app, cntL_no hl]
  rfl
 have h2 : ∀ L : List TK, cntL (zI X D L) = L.length := by
  intro L
  induction L with
  | nil => rfl
  | cons x L ih =>
   have e : zI X D (x :: L) = perB X D x ++ zI X D L := by simp [zI]
   rw [e, cntL_app, ih]
   have hp : cntL (perB X D x) = 1 := by
    unfold perB
    rw [cntL_app, cntL_app, cntL_no (lineB_no X x)]
    split <;> rfl
   rw [hp, List.length_cons]
   omega
 rw [cntL_app, h1, h2]
 omega
theorem cntL_take (l : List UInt8) (q : Nat) (b : UInt8) (h : l[q]? = some b) : cntL (l.take (q + 1)) = cntL (l.take q) + if b = 10 then 1 else 0 := by
 rw [List.take_add_one, h, Option.toList_some, cntL_app]
 congr 1
 unfold cntL
 by_cases hb : b = 10
 ·rw [if_pos hb, hb]; rfl
 ·rw [if_neg hb]
  have : (b == 10) = false := beq_false_of_ne hb
  simp [this]
theorem text_len {T : List TK} {P : List TP} {V : List Int} {dv : Int} {D : List Int} {G : List GT} {W : List VW} (h : chkS T P V dv D G W = 0) : (topB W ++ zI (P.zip V) D T).length ≤ 40000 := by
 have hr := chkS_right h
 have hl12 : T.length ≤ 12 := (zE hr.1).1
 have h1 := textsB_len hr.1 D T (fun y hy => hy)
 have h2 := leadB_len hr.2.2.2.2.1
 have h3 : (topB W).length ≤ 30 := by
  unfold topB
  simp only [List.length_append, List.length_cons, List.length_nil]
  omega
 rw [List.length_append]
 omega
#print axioms cnt_text
#print axioms chkS_bare
end
section
open Go.RowKit
open Go.Sort (grow alloc_eq_grow grow_grow)
def befP (p q : TP) : Prop := p.m < q.m ∨ (p.m = q.m ∧ (p.g < q.g ∨ (p.g = q.g ∧ p.s < q.s)))
instance (p q : TP) : Decidable (befP p q) := by unfold befP; infer_instance
end
section
open Go.Shelf
end
section
open Go.RowKit
open Go.Sort (grow SWO PermIn SortedIn HoldsK size_flatK get_flatK holdsK_grow holdsK_putRowK holdsK_ahead putRowK)
instance : Inhabited TP := ⟨⟨0, 0, 0, 0, 0⟩⟩
end
section
open Go.RowKit
theorem own_formP {w : World} {base n : Nat} {e : TypeId} {size : Nat} {v : Value} {xs : List Value} (h : w.ownsRow base e size v n xs) (hn : 0 < n) : ∃ g c, v = .slice (some ⟨g, 0, none⟩) n c ∧ base ≤ g ∧ n ≤ c := by
 have hl := h.lt
 rcases h.2 with ⟨-, h0⟩ | ⟨g, c, cur, rfl, h1, h2, h3, h4⟩
 ·omega
 ·exact ⟨g, c, rfl, (hl g rfl).1, h3⟩
end
section
open Go.RowKit
section
variable {w : World} {K Q B : Nat} {a : KA} {T : List TK} {P : List TP} {V : List Int} {dv : Int} {D : List Int} {G : List GT} {W : List VW}
end
theorem wpList_append_gates {ops : Array Oper} {rest : List Oper} {o : Oper} {a : Act} {Q : Exit → Act → World → Prop} {w : World} (hgd : o.guard = none) (s x : Operand)
  (ho : o.op = .call { callee := .builtin .append, args := #[s, x], argTypes := #[29, 29] })
  (base : Nat) (v : Value) (R : List GT) (hs : a.eval s = v) (hown : w.ownsRow base 47 8 v R.length (zL R))
  (ox : Option Addr) (c : Nat) (L : List GT) (hx : a.eval x = .slice ox L.length c) (hL : zV w ox L) (hlc : L.length ≤ c) (hn : ox = none → c = 0) (hb : (R.length + L.length) * 96 ≤ 140737488355328) (hbase : base ≤ w.heap.size)
  (h : ∀ v' w', w'.ownsRow base 47 8 v' (R ++ L).length (zL (R ++ L)) → w.grownBy w' v.ownBlock → wpList Tryz.prog ops Q rest (a.put o.dst v') w') : wpList Tryz.prog ops Q (o :: rest) a w := by
 obtain ⟨i0, hi, hz0, hz1, hz2⟩ := info_parts infoGt
 refine wpList_plain hgd fun _ hK => wp_append_row s x 29 ho base 47 i0 _ 8 96 Tryz.underlying29 hi hz0 hz1 hz2 rfl (by decide) v R.length (zL R) hs hown ox L.length c (zL L) hx (cellsG_len L) ?_ (oneG L) ?_ (by unfold maxLen; omega) hb hbase fun v' w' h2 h3 => hK _ _ (h v' w' ?_ h3)
 ·intro ad had
  subst had
  exact gates_cells hL
 ·intro hno
  refine ⟨?_, hn hno⟩
  have := hn hno
  omega
 ·rw [cellsG_app, List.length_append]
  exact h2
end
section
open Go.RowKit
theorem VwsV.open3 {w : World} {o : Option Addr} {n c : Nat} {L : List VW} (h : VwsV w (.slice o n c) L) : n = L.length ∧ zJ w o L ∧ L.length ≤ c ∧ (o = none → c = 0) := by
 obtain ⟨o', c', e, h1, h2, h3⟩ := h
 simp only [Value.slice.injEq] at e
 obtain ⟨rfl, rfl, rfl⟩ := e
 exact ⟨rfl, h1, h2, h3⟩
def nv1 : List VW := [⟨1, 1, true⟩, ⟨1, 1, true⟩, ⟨1, 1, true⟩]
def nv2 : List VW := [⟨1, 1, true⟩, ⟨1, 1, false⟩, ⟨1, 1, true⟩]
theorem leadBegun_any (w : World) : Calls Tryz.prog 13 #[] w fun e w' => e = .returned (.bool true) ∧ Below w.heap.size w w' := by
 have HW := zA (fun W o c (h : zJ W o newV) => win_any o c newV 1 W h (by decide))
 rw [show winB newV 1 = true by decide, show winE newV 1 = 0 by decide, show winR newV 1 = nv1 by rfl] at HW
 have HN := zA (fun W o c (h : zJ W o nv1) => now_any o c nv1 W h (by decide))
 rw [show nowI nv1 = 1 by decide, show nowB nv1 = true by decide, show zO nv1 = 0 by decide] at HN
 have HS := zA (fun W o c (h : zJ W o nv1) => set_any o c nv1 1 false W h (by decide))
 rw [show unfW nv1 1 2 = 0 by decide, show setR nv1 1 false = nv2 by rfl] at HS
 have HM := zA (fun W o c (h : zJ W o nv2) => now_any o c nv2 W h (by decide))
 rw [show nowI nv2 = 0 by decide, show nowB nv2 = false by decide, show zO nv2 = 0 by decide] at HM
 have HC := zA (fun W o c (h : zJ W o nv1) => leadCheck_any o c nv1 W h (by decide))
 rw [show zO nv1 = 0 by decide] at HC
 go_enter Tryz.func13, Tryz.ntmps13
 go_wp2_with fail
 refine (new_any w).mono ?_
 rintro e w1 ⟨⟨og, cg, ov, cv, rfl, -, hv⟩, hb1⟩
 have HB1 := zA hb1
 obtain ⟨o1, c1, e1, hv1, -⟩ := vwsV_own hv
 simp only [Value.slice.injEq] at e1
 obtain ⟨rfl, -, rfl⟩ := e1
 have HV1 := zA hv1
 clear hv hv1 hb1
 have hfd : ∀ W : World, (Instr.field 32 (stV none none none 0 0 0 0 0 0 0 none 0 0 og 3 cg ov 3 cv) 3).run Tryz.prog W = .ok (.slice ov 3 cv) W := fun _ => by rfl
 go_wp2_with fail
 refine (HW.out _ ov cv HV1.out).mono ?_
 rintro e w2 ⟨⟨o2, n2, c2, rfl, hv2, -⟩, hb2⟩
 obtain ⟨rfl, hv2, -⟩ := hv2.open3
 have HV2 := zA hv2
 have HB2 := zA (HB1.out.trans (hb2.mono HB1.out.size))
 clear hv2 hb2 HB1
 go_wp2_with fail
 refine (HN.out _ o2 c2 HV2.out).mono ?_
 rintro e w3 ⟨rfl, hb3⟩
 have HV3 := zA (HV2.out.below hb3)
 have HB3 := zA (HB2.out.trans (hb3.mono HB2.out.size))
 clear hb3 HB2 HV2
 go_wp2_with fail
 refine (HS.out _ o2 c2 HV3.out).mono ?_
 rintro e w4 ⟨⟨o4, n4, c4, rfl, hv4, -⟩, hb4⟩
 obtain ⟨rfl, hv4, -⟩ := hv4.open3
 have HV4 := zA hv4
 have HV3' := zA (HV3.out.below hb4)
 have HB4 := zA (HB3.out.trans (hb4.mono HB3.out.size))
 clear hv4 hb4 HB3 HV3
 go_wp2_with fail
 refine (HM.out _ o4 c4 HV4.out).mono ?_
 rintro e w5 ⟨rfl, hb5⟩
 have HV5 := zA (HV3'.out.below hb5)
 have HB5 := zA (HB4.out.trans (hb5.mono HB4.out.size))
 clear hb5 HB4 HV3' HV4
 go_wp2_with fail
 refine (HC.out _ o2 c2 HV5.out).mono ?_
 rintro e w6 ⟨rfl, hb6⟩
 have HB6 := zA (HB5.out.trans (hb6.mono HB5.out.size))
 clear hb6 HB5 HV5
 go_wp2_with fail
 go_ret
 exact ⟨rfl, HB6.out⟩
theorem bare_step {G : List GT} {q : Nat} {g : GT} (h : G[q]? = some g) : ((G.take q).map GT.bare ++ G.drop q).set q g.bare = (G.take (q + 1)).map GT.bare ++ G.drop (q + 1) := by
 have hl : q < G.length := (List.getElem?_eq_some_iff.1 h).1
 have hd : G.drop q = g :: G.drop (q + 1) := by rw [List.drop_eq_getElem_cons hl]; congr 1; exact (List.getElem?_eq_some_iff.1 h).2
 rw [List.set_append_right _ _ (by rw [List.length_map, List.length_take]; omega), List.length_map, List.length_take, Nat.min_eq_left (by omega), Nat.sub_self, hd, List.set_cons_zero, List.take_add_one, h]
 simp
theorem bare_at {G : List GT} {q : Nat} {g : GT} (h : G[q]? = some g) : ((G.take q).map GT.bare ++ G.drop q)[q]? = some g := by
 have hl : q < G.length := (List.getElem?_eq_some_iff.1 h).1
 rw [List.getElem?_append_right (by rw [List.length_map, List.length_take]; omega), List.length_map, List.length_take, Nat.min_eq_left (by omega), Nat.sub_self, List.getElem?_drop]
 simpa using h
theorem bare_cells {L : List GT} {q : Nat} {g : GT} (h : L[q]? = some g) : ((((zL L).set (q * 8 + 6) (.int .i64 0)).set (q * 8 + 6 + 1) (.int .i64 0)).set (q * 8 + 4) (.int .i64 0)).set (q * 8 + 4 + 1) (.slice none 0 0) = zL (L.set q g.bare) := by
 have hl := (List.getElem?_eq_some_iff.1 h).1
 rw [show q * 8 + 6 + 1 = q * 8 + 7 by omega, show q * 8 + 4 + 1 = q * 8 + 5 by omega]
 rw [cellsG_set1 L q g { g with l := 0 } 6 (.int .i64 0) h (by omega) rfl]
 rw [cellsG_set1 _ q { g with l := 0 } { g with l := 0, u := 0 } 7 (.int .i64 0) (by simp [hl]) (by omega) rfl]
 rw [cellsG_set1 _ q { g with l := 0, u := 0 } { g with l := 0, u := 0, v := 0 } 4 (.int .i64 0) (by simp [hl]) (by omega) rfl]
 rw [cellsG_set1 _ q { g with l := 0, u := 0, v := 0 } g.bare 5 (.slice none 0 0) (by simp [hl]) (by omega) rfl]
 simp [List.set_set]
theorem cntL_le (l : List UInt8) : cntL l ≤ l.length := List.length_filter_le _ _
theorem bare_gates {w : World} {og : Option Addr} {G : List GT} (h : zV w og G) : ∀ g ∈ G.map GT.bare, yR w (.slice g.oa g.A.length g.ca) g.A ∧ yQ w (.slice g.od g.D.length g.cd) g.D := by
 intro g hg
 rw [List.mem_map] at hg
 obtain ⟨x, hx, rfl⟩ := hg
 obtain ⟨i, hi⟩ := List.mem_iff_getElem?.1 hx
 obtain ⟨b, -, -, h1, -⟩ := h i x hi
 exact ⟨h1, ⟨none, 0, rfl, fun i v hv => by simp [GT.bare] at hv, Nat.le_refl _, fun _ => rfl⟩⟩
theorem ten_of {x : UInt8} (h : (x.toNat : Int) = 10) : x = 10 := by
 have h' : x.toNat = (10 : UInt8).toNat := by
  show x.toNat = 10
  omega
 exact UInt8.toNat_inj.1 h'
theorem reportHangs_walk (T : List TK) (P : List TP) (V : List Int) (dv : Int) (D : List Int) (G : List GT) (W : List VW) (o1 o2 o3 od og ov : Option Addr) (c1 c2 c3 cd cg cv : Nat) (w : World) (hs : StW w o1 o2 o3 c1 c2 c3 T P V od cd D og cg G ov cv W) (hI : ItoaOk w) :
  Calls Tryz.prog 4 #[stV o1 o2 o3 T.length c1 P.length c2 V.length c3 dv od D.length cd og G.length cg ov W.length cv] w fun e w' => e = .returned (.bool true) ∧ Below w.heap.size w w' := by
 have HI := zA hI
 have HSt := zA (fun X (hb : Below w.heap.size w X) => hs.below hb)
 have HTx := zA (fun X (hb : Below w.heap.size w X) => text_any T P V dv D G W o1 o2 o3 od og ov c1 c2 c3 cd cg cv X (hI.on hb) (hs.below hb))
 have HLn := zA hs.lok.1
 obtain ⟨t, e1, ht⟩ : ∃ t e1, textV T P V dv D G W = (t, e1) := ⟨_, _, rfl⟩
 rw [ht] at HTx
 have F1 : Hid (chkS T P V dv D G W ≠ 0 → t = [] ∧ e1 = chkS T P V dv D G W) := zA (fun h0 => by rw [textV, if_pos h0] at ht; exact ⟨(Prod.mk.inj ht).1.symm, (Prod.mk.inj ht).2.symm⟩)
 have F2 : Hid (chkS T P V dv D G W = 0 → t = topB W ++ zI (P.zip V) D T ∧ e1 = 0) := zA (fun h0 => by rw [textV, if_neg (by simp [h0])] at ht; exact ⟨(Prod.mk.inj ht).1.symm, (Prod.mk.inj ht).2.symm⟩)
 clear ht hs hI
 have HG0 := zA ((zM.nil w).more (.cells #[.slice o1 T.length c1, .slice o2 P.length c2, .slice o3 V.length c3, .int .i64 dv, .slice od D.length cd, .slice og G.length cg, .slice ov W.length cv] 32) (by simp))
 have HB0 := zA HG0.out.2.2
 have a0 : (w.alloc (.cells #[.slice o1 T.length c1, .slice o2 P.length c2, .slice o3 V.length c3, .int .i64 dv, .slice od D.length cd, .slice og G.length cg, .slice ov W.length cv] 32)).cell? ⟨w.heap.size, 0, none⟩ = some (.slice o1 T.length c1) := HG0.out.cell 0 0 _ _ _ _ rfl rfl rfl
 have a1 : (w.alloc (.cells #[.slice o1 T.length c1, .slice o2 P.length c2, .slice o3 V.length c3, .int .i64 dv, .slice od D.length cd, .slice og G.length cg, .slice ov W.length cv] 32)).cell? ⟨w.heap.size, 1, none⟩ = some (.slice o2 P.length c2) := HG0.out.cell 0 1 _ _ _ _ rfl rfl rfl
 have a2 : (w.alloc (.cells #[.slice o1 T.length c1, .slice o2 P.length c2, .slice o3 V.length c3, .int .i64 dv, .slice od D.length cd, .slice og G.length cg, .slice ov W.length cv] 32)).cell? ⟨w.heap.size, 2, none⟩ = some (.slice o3 V.length c3) := HG0.out.cell 0 2 _ _ _ _ rfl rfl rfl
 have a3 : (w.alloc (.cells #[.slice o1 T.length c1, .slice o2 P.length c2, .slice o3 V.length c3, .int .i64 dv, .slice od D.length cd, .slice og G.length cg, .slice ov W.length cv] 32)).cell? ⟨w.heap.size, 3, none⟩ = some (.int .i64 dv) := HG0.out.cell 0 3 _ _ _ _ rfl rfl rfl
 have a4 : (w.alloc (.cells #[.slice o1 T.length c1, .slice o2 P.length c2, .slice o3 V.length c3, .int .i64 dv, .slice od D.length cd, .slice og G.length cg, .slice ov W.length cv] 32)).cell? ⟨w.heap.size, 4, none⟩ = some (.slice od D.length cd) := HG0.out.cell 0 4 _ _ _ _ rfl rfl rfl
 have a5 : (w.alloc (.cells #[.slice o1 T.length c1, .slice o2 P.length c2, .slice o3 V.length c3, .int .i64 dv, .slice od D.length cd, .slice og G.length cg, .slice ov W.length cv] 32)).cell? ⟨w.heap.size, 5, none⟩ = some (.slice og G.length cg) := HG0.out.cell 0 5 _ _ _ _ rfl rfl rfl
 have a6 : (w.alloc (.cells #[.slice o1 T.length c1, .slice o2 P.length c2, .slice o3 V.length c3, .int .i64 dv, .slice od D.length cd, .slice og G.length cg, .slice ov W.length cv] 32)).cell? ⟨w.heap.size, 6, none⟩ = some (.slice ov W.length cv) := HG0.out.cell 0 6 _ _ _ _ rfl rfl rfl
 go_enter Tryz.func4, Tryz.ntmps4
 go_wp2_with fail
 clear a0 a1 a2 a3 a4 a5 a6
 generalize w.alloc (.cells #[.slice o1 T.length c1, .slice o2 P.length c2, .slice o3 V.length c3, .int .i64 dv, .slice od D.length cd, .slice og G.length cg, .slice ov W.length cv] 32) = w1 at *
 refine (HTx.out w1 HB0.out).mono ?_
 rintro e w2 ⟨rfl, hb⟩
 have HG2 := zA (HG0.out.on hb)
 have HB2 := zA HG2.out.2.2
 clear hb HG0 HB0 HTx
 go_wp2_with fail
 refine (reportBegun_any w2 (HI.out.on HB2.out)).mono ?_
 rintro e w3 ⟨rfl, hb⟩
 have HG3 := zA (HG2.out.on hb)
 have HB3 := zA HG3.out.2.2
 clear hb HG2 HB2
 go_wp2_with fail
 refine (leadBegun_any w3).mono ?_
 rintro e w4 ⟨rfl, hb⟩
 have HG4 := zA (HG3.out.on hb)
 have HB4 := zA HG4.out.2.2
 clear hb HG3 HB3
 rcases hE : (chkS T P V dv D G W != 0) with _ | _
 ·have hE0 : chkS T P V dv D G W = 0 := by simpa using hE
  obtain ⟨ht2, he2⟩ := F2.out hE0
  have hcl := cnt_text (P.zip V) D W T
  have hlen := text_len hE0
  rw [← ht2] at hcl hlen
  have HCt := zA hcl
  have hr := chkS_right hE0
  have hg3 := hr.2.2.1
  have hl12 : T.length ≤ 12 := (zE hr.1).1
  have H3 := zA hg3
  have hp3 : 0 < G.length := by omega
  have hp4 : G.length ≤ 3 := by omega
  have HT2 : Hid (textV T P V dv D (G.map GT.bare) W = (t, 0)) := zA (by rw [textV, if_neg (by simp [chkS_bare hE0]), ← ht2])
  subst he2
  clear ht2 hE hE0 F1 F2 hcl hr hg3
  have b0 : w4.cell? ⟨w.heap.size, 0, none⟩ = some (.slice o1 T.length c1) := HG4.out.cell 0 0 _ _ _ _ rfl rfl rfl
  have b1 : w4.cell? ⟨w.heap.size, 1, none⟩ = some (.slice o2 P.length c2) := HG4.out.cell 0 1 _ _ _ _ rfl rfl rfl
  have b2 : w4.cell? ⟨w.heap.size, 2, none⟩ = some (.slice o3 V.length c3) := HG4.out.cell 0 2 _ _ _ _ rfl rfl rfl
  have b3 : w4.cell? ⟨w.heap.size, 3, none⟩ = some (.int .i64 dv) := HG4.out.cell 0 3 _ _ _ _ rfl rfl rfl
  have b4 : w4.cell? ⟨w.heap.size, 4, none⟩ = some (.slice od D.length cd) := HG4.out.cell 0 4 _ _ _ _ rfl rfl rfl
  have b5 : w4.cell? ⟨w.heap.size, 5, none⟩ = some (.slice og G.length cg) := HG4.out.cell 0 5 _ _ _ _ rfl rfl rfl
  have b6 : w4.cell? ⟨w.heap.size, 6, none⟩ = some (.slice ov W.length cv) := HG4.out.cell 0 6 _ _ _ _ rfl rfl rfl
  have HR4 : Hid (w4.heap[w.heap.size]? = some (.cells #[.slice o1 T.length c1, .slice o2 P.length c2, .slice o3 V.length c3, .int .i64 dv, .slice od D.length cd, .slice og G.length cg, .slice ov W.length cv] 32 (0, 0))) := zA (HG4.out.1 0 _ rfl)
  have lk4 := ltR HR4
  go_upto_region 7 with fail
  clear b0 b1 b2 b3 b4 b5 b6
  have hba := (Below.refl w4.heap.size w4).alloc (Nat.le_refl _) (.cells #[.slice o1 T.length c1, .slice o2 P.length c2, .slice o3 V.length c3, .int .i64 dv, .slice od D.length cd, .slice og G.length cg, .slice ov W.length cv] 32)
  have HB5 := zA (HB4.out.trans (hba.mono HB4.out.size))
  have HR5 : Hid ((w4.alloc (.cells #[.slice o1 T.length c1, .slice o2 P.length c2, .slice o3 V.length c3, .int .i64 dv, .slice od D.length cd, .slice og G.length cg, .slice ov W.length cv] 32)).heap[w.heap.size]? = some (.cells #[.slice o1 T.length c1, .slice o2 P.length c2, .slice o3 V.length c3, .int .i64 dv, .slice od D.length cd, .slice og G.length cg, .slice ov W.length cv] 32 (0, 0))) := zA ((hba.block _ lk4).trans HR4.out)
  have HX5 := zA (heap_alloc_new w4 (.cells #[.slice o1 T.length c1, .slice o2 P.length c2, .slice o3 V.length c3, .int .i64 dv, .slice od D.length cd, .slice og G.length cg, .slice ov W.length cv] 32))
  have lx5 : w4.heap.size < (w4.alloc (.cells #[.slice o1 T.length c1, .slice o2 P.length c2, .slice o3 V.length c3, .int .i64 dv, .slice od D.length cd, .slice og G.length cg, .slice ov W.length cv] 32)).heap.size := (Array.getElem?_eq_some_iff.1 HX5.out).1
  clear hba HB4 HG4 HR4
  generalize w4.alloc (.cells #[.slice o1 T.length c1, .slice o2 P.length c2, .slice o3 V.length c3, .int .i64 dv, .slice od D.length cd, .slice og G.length cg, .slice ov W.length cv] 32) = w5 at *
  generalize w4.heap.size = X at *
  have hs5 := HB5.out.size
  have lk5 := ltR HR5
  have a5 : w5.cell? ⟨w.heap.size, 5, none⟩ = some (.slice og G.length cg) := (cell_of_row _ _ 5 _ _ _ HR5.out).trans rfl
  have x5 : w5.cell? ⟨X, 5, none⟩ = some (.slice og G.length cg) := (cell_of_row _ _ 5 _ _ _ HX5.out).trans rfl
  have xf5 : w5.frozen? ⟨X, 5, none⟩ = false := frozen_of_row _ _ 5 _ _ HX5.out
  have HGa := zA ((HSt.out w5 HB5.out).gts.below ((Below.refl w5.heap.size w5).alloc (Nat.le_refl _) (.cells #[] 47)))
  have HGe := zA (And.intro (HSt.out w5 HB5.out).gle (HSt.out w5 HB5.out).gno)
  have HOp : Hid (World.ownsRow (w5.alloc (.cells #[] 47)) w5.heap.size 47 8 (.slice (some ⟨w5.heap.size, 0, none⟩) 0 0) ([] : List GT).length (zL [])) := zA (World.ownsRow_made (base := w5.heap.size) (e := 47) (size := 8) w5 #[] 0 (Nat.le_refl _) (by decide) rfl)
  go_wp2_with (at_builtin; go_loud (refine wpList_append_gates rfl _ _ rfl w5.heap.size _ [] rfl HOp.out og cg G rfl HGa.out HGe.out.1 HGe.out.2 (by simp only [List.length_nil]; omega) (by simp) ?_; intro v1 w6 hown hgrow; rw [List.nil_append] at hown; obtain ⟨Q, gc, rfl, hQ, hgc⟩ := own_formP hown hp3; have hb := ((Below.refl w5.heap.size w5).alloc (Nat.le_refl _) (.cells #[] 47)).grown hgrow (by simp) (fun k hk => (HOp.out.lt k hk).1); have HO := zA hown; clear hown hgrow; have HR6 := zA (at_below HR5.out hb); have HX6 := zA (at_below HX5.out hb); have HB6 := zA (HB5.out.trans (hb.mono HB5.out.size)); have hs6 : w5.heap.size ≤ w6.heap.size := hb.size; clear hb a5 x5 xf5; have y5 : w6.cell? ⟨X, 5, none⟩ = some (.slice og G.length cg) := (cell_of_row _ _ 5 _ _ _ HX6.out).trans rfl; have yf5 : w6.frozen? ⟨X, 5, none⟩ = false := frozen_of_row _ _ 5 _ _ HX6.out))
  have HX7 := zA (heap_setCell_same _ X 5 _ _ (.slice (some ⟨Q, 0, none⟩) G.length gc) HX6.out)
  have HR7 : Hid ((w6.setCell ⟨X, 5, none⟩ (.slice (some ⟨Q, 0, none⟩) G.length gc)).heap[w.heap.size]? = some (.cells #[.slice o1 T.length c1, .slice o2 P.length c2, .slice o3 V.length c3, .int .i64 dv, .slice od D.length cd, .slice og G.length cg, .slice ov W.length cv] 32 (0, 0))) := zA ((heap_setCell_other w6 _ _ _ (by show w.heap.size ≠ X; omega)).trans HR6.out)
  have HB7 := zA (HB6.out.setCell (p := ⟨X, 5, none⟩) (by show w.heap.size ≤ X; omega) (.slice (some ⟨Q, 0, none⟩) G.length gc))
  have HO7 := zA (yI HO.out (p := ⟨X, 5, none⟩) lx5 (.slice (some ⟨Q, 0, none⟩) G.length gc))
  clear y5 yf5 HX6 HR6 HB6 HO
  generalize w6.setCell ⟨X, 5, none⟩ (.slice (some ⟨Q, 0, none⟩) G.length gc) = w7 at *
  go_loopw [6] (fun j wr => ∃ q : Nat, q ≤ G.length ∧ j = .int .i64 (q : Int) ∧ Hid (wr.ownsRow w5.heap.size 47 8 (.slice (some ⟨Q, 0, none⟩) G.length gc) G.length (zL ((G.take q).map GT.bare ++ G.drop q))) ∧ Hid (Below w.heap.size w wr) ∧ Hid (wr.heap[w.heap.size]? = some (.cells #[.slice o1 T.length c1, .slice o2 P.length c2, .slice o3 V.length c3, .int .i64 dv, .slice od D.length cd, .slice og G.length cg, .slice ov W.length cv] 32 (0, 0))) ∧ Hid (wr.heap[X]? = some (.cells #[.slice o1 T.length c1, .slice o2 P.length c2, .slice o3 V.length c3, .int .i64 dv, .slice od D.length cd, .slice (some ⟨Q, 0, none⟩) G.length gc, .slice ov W.length cv] 32 (0, 0)))) (fun j _ => G.length - (intOf j).toNat)
  case atStart => exact ⟨0, Nat.zero_le _, rfl, by simpa using HO7, HB7, HR7, HX7⟩
  case round =>
   clear HO7 HB7 HR7 HX7
   obtain ⟨q, hq, rfl, HOr, HBr, HRr, HXr⟩ := hrel
   have x5 : wr.cell? ⟨X, 5, none⟩ = some (.slice (some ⟨Q, 0, none⟩) G.length gc) := (cell_of_row _ _ 5 _ _ _ HXr.out).trans rfl
   by_cases hgo : q < G.length
   ·obtain ⟨g, hg⟩ : ∃ g, G[q]? = some g := ⟨G[q], by simp [hgo]⟩
    have hgc' : ∀ j, j < 8 → wr.cell? ⟨Q, q * 8 + j, none⟩ = g.cells[j]? := fun j hj => by
     rw [HOr.out.cellAt (q * 8 + j) (by omega)]
     exact cellsG_get _ q g (bare_at hg) j hj
    have d4 : wr.cell? ⟨Q, q * 8 + 4, none⟩ = some (.int .i64 g.v) := (hgc' 4 (by omega)).trans rfl
    have d5 : wr.cell? ⟨Q, q * 8 + 5, none⟩ = some (.slice g.od g.D.length g.cd) := (hgc' 5 (by omega)).trans rfl
    have d6 : wr.cell? ⟨Q, q * 8 + 6, none⟩ = some (.int .i64 g.l) := (hgc' 6 (by omega)).trans rfl
    have d7 : wr.cell? ⟨Q, q * 8 + 7, none⟩ = some (.int .i64 g.u) := (hgc' 7 (by omega)).trans rfl
    have f4 := HOr.out.frozenAt (q * 8 + 4)
    have f5 := HOr.out.frozenAt (q * 8 + 5)
    have f6 := HOr.out.frozenAt (q * 8 + 6)
    have f7 := HOr.out.frozenAt (q * 8 + 7)
    have HG := zA hg
    clear hg hgc'
    have hQX : X < Q := by omega
    go_wp2_with fail
    go_roundw
    case rel =>
     have s1 := HOr.out.stored (q * 8 + 6) (.int .i64 0)
     have s2 := s1.1.stored (q * 8 + 6 + 1) (.int .i64 0)
     have s3 := s2.1.stored (q * 8 + 4) (.int .i64 0)
     have s4 := s3.1.stored (q * 8 + 4 + 1) (.slice none 0 0)
     have s5 := s4.1
     rw [bare_cells (bare_at HG.out), bare_step HG.out] at s5
     have hQ0 : w.heap.size ≤ Q := by omega
     refine ⟨q + 1, by omega, by go_num, zA s5, zA ((((HBr.out.setCell (p := ⟨Q, q * 8 + 6, none⟩) hQ0 _).setCell (p := ⟨Q, q * 8 + 6 + 1, none⟩) hQ0 _).setCell (p := ⟨Q, q * 8 + 4, none⟩) hQ0 _).setCell (p := ⟨Q, q * 8 + 4 + 1, none⟩) hQ0 _), ?_, ?_⟩
     ·exact zA ((heap_setCell_other _ _ _ _ (by show w.heap.size ≠ Q; omega)).trans ((heap_setCell_other _ _ _ _ (by show w.heap.size ≠ Q; omega)).trans ((heap_setCell_other _ _ _ _ (by show w.heap.size ≠ Q; omega)).trans ((heap_setCell_other _ _ _ _ (by show w.heap.size ≠ Q; omega)).trans HRr.out))))
     ·exact zA ((heap_setCell_other _ _ _ _ (by show X ≠ Q; omega)).trans ((heap_setCell_other _ _ _ _ (by show X ≠ Q; omega)).trans ((heap_setCell_other _ _ _ _ (by show X ≠ Q; omega)).trans ((heap_setCell_other _ _ _ _ (by show X ≠ Q; omega)).trans HXr.out))))
    case measure => simp [intOf]; omega
   ·have hqe : ((G.take q).map GT.bare ++ G.drop q) = G.map GT.bare := by rw [List.take_of_length_le (by omega), List.drop_of_length_le (by omega), List.append_nil]
    rw [hqe] at HOr
    have hgm : (G.map GT.bare).length = G.length := List.length_map ..
    have h0 := HSt.out wr HBr.out
    have hst : StW wr o1 o2 o3 c1 c2 c3 T P V od cd D (some ⟨Q, 0, none⟩) gc (G.map GT.bare) ov cv W :=
     { h0 with
      gts := gatesAt_own (by rw [hgm]; exact HOr.out) (bare_gates h0.gts)
      gok := fun g hg => by
       rw [List.mem_map] at hg
       obtain ⟨x, hx, rfl⟩ := hg
       exact ⟨(h0.gok x hx).1, by simp [GT.bare]⟩
      gle := by rw [hgm]; exact hgc
      gno := fun h => by cases h
      gln := by rw [hgm]; exact h0.gln }
    have ht2 := text_any T P V dv D (G.map GT.bare) W o1 o2 o3 od (some ⟨Q, 0, none⟩) ov c1 c2 c3 cd gc cv wr (HI.out.on HBr.out) hst
    rw [hgm, HT2.out] at ht2
    have HT3 := zA ht2
    clear hqe hgm h0 hst ht2 x5 HT2 HOr HSt hgc hQ
    have hr0 := HRr.out
    have x0 : wr.cell? ⟨X, 0, none⟩ = some (.slice o1 T.length c1) := (cell_of_row _ _ 0 _ _ _ HXr.out).trans rfl
    have x1 : wr.cell? ⟨X, 1, none⟩ = some (.slice o2 P.length c2) := (cell_of_row _ _ 1 _ _ _ HXr.out).trans rfl
    have x2 : wr.cell? ⟨X, 2, none⟩ = some (.slice o3 V.length c3) := (cell_of_row _ _ 2 _ _ _ HXr.out).trans rfl
    have x3 : wr.cell? ⟨X, 3, none⟩ = some (.int .i64 dv) := (cell_of_row _ _ 3 _ _ _ HXr.out).trans rfl
    have x4 : wr.cell? ⟨X, 4, none⟩ = some (.slice od D.length cd) := (cell_of_row _ _ 4 _ _ _ HXr.out).trans rfl
    have x5 : wr.cell? ⟨X, 5, none⟩ = some (.slice (some ⟨Q, 0, none⟩) G.length gc) := (cell_of_row _ _ 5 _ _ _ HXr.out).trans rfl
    have x6 : wr.cell? ⟨X, 6, none⟩ = some (.slice ov W.length cv) := (cell_of_row _ _ 6 _ _ _ HXr.out).trans rfl
    go_wp2_with fail
    clear x0 x1 x2 x3 x4 x5 x6 hr0
    refine HT3.out.mono ?_
    rintro e w8 ⟨rfl, hb⟩
    have HB8 := trR HBr hb
    have HR8 := zA ((hb.block _ (Array.getElem?_eq_some_iff.1 HRr.out).1).trans HRr.out)
    clear hb HBr HRr HXr HT3
    go_wp2_with fail
    go_loopw [9, 10] (fun ln j wr => ∃ q : Nat, q ≤ t.length ∧ j = .int .i64 (q : Int) ∧ ln = .int .i64 (cntL (t.take q) : Int) ∧ wr = w8) (fun _ j _ => t.length - (intOf j).toNat)
    case atStart => exact ⟨0, Nat.zero_le _, rfl, rfl, rfl⟩
    case round =>
     obtain ⟨q, hq, rfl, rfl, hw⟩ := hrel
     subst hw
     by_cases hgo : q < t.length
     ·obtain ⟨x, hx⟩ : ∃ x, t[q]? = some x := ⟨t[q], by simp [hgo]⟩
      have hct := cntL_take t q x hx
      have hc1 : cntL (t.take q) ≤ 40000 := by have := cntL_le (t.take q); rw [List.length_take] at this; omega
      have HCq := zA hct
      have hidx : ∀ h, (⟨t.toArray⟩ : ByteArray)[q]'h = x := fun h => by
       have := (List.getElem?_eq_some_iff.1 hx).2
       show t.toArray[q]'_ = x
       simpa using this
      clear hct hx
      generalize cntL (t.take q) = n at *
      by_cases h10 : x = 10
      ·rw [if_pos h10] at HCq
       have hn10 : (x.toNat : Int) = 10 := by rw [h10]; rfl
       clear h10
       go_wp2_with fail
       go_roundw
       case rel => exact ⟨q + 1, by omega, by go_num, by rw [HCq.out]; go_num, by first | rfl | trivial⟩
       case measure => simp [intOf]; omega
      ·rw [if_neg h10, Nat.add_zero] at HCq
       have hn10 : ¬ (x.toNat : Int) = 10 := fun h => h10 (ten_of h)
       clear h10
       go_wp2_with fail
       go_roundw
       case rel => exact ⟨q + 1, by omega, by go_num, by rw [HCq.out]; rfl, by first | rfl | trivial⟩
       case measure => simp [intOf]; omega
     ·have hqe : t.take q = t := List.take_of_length_le (by omega)
      rw [hqe, HCt.out]
      have r0 := (cell_of_row _ _ 0 _ _ _ HR8.out).trans rfl
      have r0' : wr.cell? ⟨w.heap.size, 0, none⟩ = some (.slice o1 T.length c1) := r0
      clear r0 hqe
      go_wp2_with fail
      go_ret
      exact ⟨by simp, HB8.out⟩
 ·have hE0 : chkS T P V dv D G W ≠ 0 := by simpa using hE
  obtain ⟨ht2, he2⟩ := F1.out hE0
  subst ht2 he2
  clear F1 F2
  go_wp2_with fail
  go_ret
  exact ⟨by simp, HB4.out⟩
#print axioms reportHangs_walk
end
end Go.Proofs.YtdcojigjcebcpaaGreatDoor
