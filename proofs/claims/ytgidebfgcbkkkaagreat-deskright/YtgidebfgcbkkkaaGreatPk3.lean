/-
  Texts joined: S2, W1, Z4, Z5, Z6, Z7, Z8, F9, Z9, N7, J5, J6.
-/
import Derived.Laws.OwnMore
import Derived.BigRegion
import Derived.Test.YtgidebfgcbkkkaaGreatPk2
set_option maxHeartbeats 12800000
set_option maxRecDepth 100000
namespace Go.Proofs.YtgidebfgcbkkkaaGreat
section
open Go.RowKit
def zO (T : List TK) (P : List TP) (V : List Int) (p : TP) : Int × Int :=
 if xC T P V ≠ 0 then (0, xC T P V) else if unf T P p ≠ 0 then (0, unf T P p) else if earlyB P p.m = true then (0, 4)
 else if (judB T (P.zip V) p).2 ≠ 0 then judB T (P.zip V) p else if P.length = 60 then (0, 2) else ((judB T (P.zip V) p).1, 0)
def BoxesE (w w1 : World) (o1 o2 o3 : Option Addr) (n1 c1 n2 c2 n3 c3 : Nat) (p : TP) : Prop :=
 Led3 w1 w.heap.size o1 o2 o3 n1 c1 n2 c2 n3 c3 ∧ jN w1 ⟨w.heap.size + 1, 0, none⟩ p ∧ w1.heap[w.heap.size + 1 + 1]? = some (cL none none none 0 0 0 0 0 0 26) ∧ w.heap.size + 1 + 1 < w1.heap.size ∧ Below w.heap.size w w1
theorem boxesE_of (o1 o2 o3 : Option Addr) (n1 c1 n2 c2 n3 c3 : Nat) (a g s m z : Int) (w w1 : World) (h : Below (((w.alloc (cL o1 o2 o3 n1 c1 n2 c2 n3 c3 26)).alloc (cP a g s m z 79)).alloc (cL none none none 0 0 0 0 0 0 26)).heap.size (((w.alloc (cL o1 o2 o3 n1 c1 n2 c2 n3 c3 26)).alloc (cP a g s m z 79)).alloc (cL none none none 0 0 0 0 0 0 26)) w1) :
  BoxesE w w1 o1 o2 o3 n1 c1 n2 c2 n3 c3 ⟨a, g, s, m, z⟩ := by
 have s1 := h.size
 simp at s1
 refine ⟨Led3.below (w := ((w.alloc (cL o1 o2 o3 n1 c1 n2 c2 n3 c3 26)).alloc (cP a g s m z 79)).alloc (cL none none none 0 0 0 0 0 0 26)) ⟨?_, ?_, ?_⟩ h (by simp; omega), jN.below (w := ((w.alloc (cL o1 o2 o3 n1 c1 n2 c2 n3 c3 26)).alloc (cP a g s m z 79)).alloc (cL none none none 0 0 0 0 0 0 26)) ⟨?_, ?_, ?_, ?_, ?_⟩ h (by simp), ?_, by omega,
  Below.trans ((((Below.refl _ _).alloc (Nat.le_refl _) _).alloc (by simp) _).alloc (by simp; omega) _) (h.mono (by simp; omega))⟩
 all_goals first | (rw [h.block _ (by simp)]; exact heap_alloc_new' _ _ _ (by simp)) | simp [go_sem]
theorem BoxesE.on {w w1 w2 : World} {o1 o2 o3 : Option Addr} {n1 c1 n2 c2 n3 c3 : Nat} {p : TP} (h : BoxesE w w1 o1 o2 o3 n1 c1 n2 c2 n3 c3 p) (hb : Below w1.heap.size w1 w2) : BoxesE w w2 o1 o2 o3 n1 c1 n2 c2 n3 c3 p :=
 ⟨h.1.below hb h.1.lt, h.2.1.below hb h.2.1.lt, by rw [hb.block _ h.2.2.2.1]; exact h.2.2.1, Nat.lt_of_lt_of_le h.2.2.2.1 hb.size, h.2.2.2.2.trans (hb.mono h.2.2.2.2.size)⟩
def LedF (B : Nat) (w : World) (v : Value) (T : List TK) (P : List TP) (V : List Int) : Prop :=
 ∃ oa ca ob cb oc cc, v = lg oa ob oc T.length ca P.length cb V.length cc ∧ (yJ w (.slice oa T.length ca) T ∧ zK B (.slice oa T.length ca)) ∧ (zR w (.slice ob P.length cb) P ∧ zK B (.slice ob P.length cb)) ∧ (zP w (.slice oc V.length cc) V ∧ zK B (.slice oc V.length cc))
theorem LedF.below {B : Nat} {w w' : World} {v : Value} {T : List TK} {P : List TP} {V : List Int} (h : LedF B w v T P V) (hb : Below w.heap.size w w') : LedF B w' v T P V :=
 have ⟨oa, ca, ob, cb, oc, cc, e, h1, h2, h3⟩ := h; ⟨oa, ca, ob, cb, oc, cc, e, ⟨h1.1.below hb, h1.2⟩, ⟨h2.1.below hb, h2.2⟩, ⟨h3.1.below hb, h3.2⟩⟩
def phiE (n B : Nat) (o1 o2 o3 : Option Addr) (c1 c2 c3 : Nat) (T : List TK) (P : List TP) (V : List Int) (p : TP) (j : Int) (k : Nat) (v : Value) (w : World) : Prop :=
 match k with
 | 0 => v = .pointer (some ⟨n, 0, none⟩)
 | 1 => v = .slice o1 T.length c1
 | 2 => yJ w v T ∧ zK B v
 | 3 => v = .pointer (some ⟨n, 1, none⟩)
 | 4 => v = .slice o2 P.length c2
 | 5 => v = tp p.a p.g p.s p.m p.z
 | 6 => ∃ b, v = .slice (some ⟨b, 0, none⟩) 1 1 ∧ jN w ⟨b, 0, none⟩ p
 | 7 => ∃ b b', v = .slice (some ⟨b, 0, none⟩) 2 2 ∧ jG w ⟨b, 0, none⟩ [(o2, P, c2), (some ⟨b', 0, none⟩, [p], 1)]
 | 8 => zR w v (P ++ [p]) ∧ zK B v
 | 9 => v = .pointer (some ⟨n, 2, none⟩)
 | 10 => v = .slice o3 V.length c3
 | 11 => v = .int .i64 j
 | 12 => ∃ b, v = .slice (some ⟨b, 0, none⟩) 1 1 ∧ w.cell? ⟨b, 0, none⟩ = some (.int .i64 j)
 | 13 => ∃ b b', v = .slice (some ⟨b, 0, none⟩) 2 2 ∧ PiecesV w ⟨b, 0, none⟩ [(o3, V, c3), (some ⟨b', 0, none⟩, [j], 1)]
 | 14 => zP w v (V ++ [j]) ∧ zK B v
 | 15 => LedF B w v T (P ++ [p]) (V ++ [j])
 | 16 => v = .int .i64 j
 | _ => True
theorem phiE_below {n B : Nat} {o1 o2 o3 : Option Addr} {c1 c2 c3 : Nat} {T : List TK} {P : List TP} {V : List Int} {p : TP} {j : Int} (k : Nat) (v : Value) (w w' : World) (h : phiE n B o1 o2 o3 c1 c2 c3 T P V p j k v w) (hb : Below w.heap.size w w') :
  phiE n B o1 o2 o3 c1 c2 c3 T P V p j k v w' := by
 unfold phiE at h ⊢
 split <;> simp only [] at h
 all_goals first
  | exact h
  | exact ⟨h.1.below hb, h.2⟩
  | (obtain ⟨b, e, h5⟩ := h; exact ⟨b, e, h5.below hb h5.lt⟩)
  | (obtain ⟨b, b', e, h5⟩ := h; exact ⟨b, b', e, h5.below hb⟩)
  | (obtain ⟨b, e, h5⟩ := h; exact ⟨b, e, by rw [hb.cell (World.block_lt_of_cell? w _ h5)]; exact h5⟩)
  | exact h.below hb
theorem intsAt_one {w : World} {b : Nat} {j : Int} (h : w.cell? ⟨b, 0, none⟩ = some (.int .i64 j)) : zH w (some ⟨b, 0, none⟩) [j] := by
 intro i q hq
 match i, hq with
 | 0, hq =>
  simp at hq
  subst hq
  exact ⟨_, rfl, by simpa [Addr.add] using h⟩
 | i + 1, hq => simp at hq
theorem enterF_any (T : List TK) (P : List TP) (V : List Int) (a g s m z : Int) (o1 o2 o3 : Option Addr) (c1 c2 c3 : Nat) (w : World) (hT : zV w o1 T) (hP : zI w o2 P) (hV : zH w o3 V) (hlT : T.length ≤ 9223372036854775807) (hlP : P.length ≤ 9223372036854775807) (hlV : V.length ≤ 9223372036854775807)
  (hc2 : P.length ≤ c2) (hc3 : V.length ≤ c3) (hn2 : o2 = none → c2 = 0) (hn3 : o3 = none → c3 = 0) :
  Calls Tryz.prog 152 #[lg o1 o2 o3 T.length c1 P.length c2 V.length c3, tp a g s m z] w fun e w' =>
   (∃ v, e = .returned (.tuple #[v, .int .i64 (zO T P V ⟨a, g, s, m, z⟩).1, .int .i64 (zO T P V ⟨a, g, s, m, z⟩).2]) ∧ LedN w.heap.size w' v (if (zO T P V ⟨a, g, s, m, z⟩).2 = 0 then T else []) (if (zO T P V ⟨a, g, s, m, z⟩).2 = 0 then P ++ [(⟨a, g, s, m, z⟩ : TP)] else [])
    (if (zO T P V ⟨a, g, s, m, z⟩).2 = 0 then V ++ [(zO T P V ⟨a, g, s, m, z⟩).1] else [])) ∧ Below w.heap.size w w' := by
 have HC := zA (fun W (h : zV W o1 T) (h' : zI W o2 P) (h'' : zH W o3 V) => checkLed_any T P V o1 o2 o3 c1 c2 c3 W h h' h'' hlT hlP hlV hc2 hc3)
 have HU := zA (fun (h0 : xC T P V = 0) W (h : zV W o1 T) (h' : zI W o2 P) => unfit_any T P o1 o2 o3 c1 c2 V.length c3 a g s m z W h h' (zW h0).1 (zW h0).2.1 (rising_of (zW h0).2.2.2.1))
 have HEa := zA (fun (h0 : xC T P V = 0) W (h' : zI W o2 P) => early_any P o1 o2 o3 T.length c1 c2 V.length c3 a g s m z W h' (zW h0).2.1)
 have HJ := zA (fun (h0 : xC T P V = 0) (hu : unf T P ⟨a, g, s, m, z⟩ = 0) W (h : zV W o1 T) (h' : zI W o2 P) (h'' : zH W o3 V) => bookJudge_any T P V o1 o2 o3 c1 c2 c3 a g s m z W h h' h'' (zW h0).1 (zW h0).2.1 (zW h0).2.2.1 (rising_of (zW h0).2.2.2.1) (unf_has hu).2.1)
 have hlens0 : xC T P V = 0 → T.length ≤ 12 ∧ P.length ≤ 60 ∧ V.length ≤ 60 := fun h => by have := zW h; omega
 have HT := zA hT
 have HP := zA hP
 have HV := zA hV
 clear hT hP hV hlT hlP hlV
 generalize hE : zO T P V ⟨a, g, s, m, z⟩ = E
 unfold zO at hE
 simp only [] at hE
 generalize xC T P V = X at *
 generalize unf T P ⟨a, g, s, m, z⟩ = U at *
 generalize earlyB P m = ea at *
 generalize judB T (P.zip V) ⟨a, g, s, m, z⟩ = J at *
 have hc : ((X != 0) = true ∧ E = (0, X)) ∨ (X = 0 ∧ (U != 0) = true ∧ E = (0, U)) ∨ (X = 0 ∧ U = 0 ∧ ea = true ∧ E = (0, 4)) ∨ (X = 0 ∧ U = 0 ∧ ea = false ∧ (J.2 != 0) = true ∧ E = J) ∨ (X = 0 ∧ U = 0 ∧ ea = false ∧ (J.2 != 0) = false ∧ ((P.length : Int) == 60) = true ∧ E = (0, 2)) ∨
   (X = 0 ∧ U = 0 ∧ ea = false ∧ (J.2 != 0) = false ∧ ((P.length : Int) == 60) = false ∧ E = (J.1, 0)) := by
  rw [← hE]
  by_cases h1 : X = 0
  ·by_cases h2 : U = 0
   ·cases ea
    ·by_cases h3 : J.2 = 0
     ·by_cases h4 : P.length = 60
      ·simp [h1, h2, h3, h4]
      ·have : ¬ (P.length : Int) = 60 := by omega
       simp [h1, h2, h3, h4, this]
     ·simp [h1, h2, h3]
    ·simp [h1, h2]
   ·simp [h1, h2]
  ·simp [h1]
 clear hE
 obtain ⟨J1, J2⟩ := J
 simp only [] at hc HJ
 rcases hc with ⟨h1, rfl⟩ | ⟨rfl, h2, rfl⟩ | ⟨rfl, rfl, rfl, rfl⟩ | ⟨rfl, rfl, rfl, h4, rfl⟩ | ⟨rfl, rfl, rfl, h4, h5, rfl⟩ | ⟨rfl, rfl, rfl, h4, h5, rfl⟩
 rotate_left 5
 ·simp only [if_true]
  have h4' : J2 = 0 := by simpa using h4
  subst h4'
  have hlens := hlens0 rfl
  go_enter Tryz.func152, Tryz.ntmps152
  go_wp2_with fail
  refine (HC.out _ (HT.out.below ?_) (HP.out.below ?_) (HV.out.below ?_)).mono ?_
  ·repeat (first | with_reducible exact Below.refl _ _ | with_reducible refine Below.alloc ?_ (by simp; try omega) _)
  ·repeat (first | with_reducible exact Below.refl _ _ | with_reducible refine Below.alloc ?_ (by simp; try omega) _)
  ·repeat (first | with_reducible exact Below.refl _ _ | with_reducible refine Below.alloc ?_ (by simp; try omega) _)
  rintro e w1 ⟨rfl, hb1⟩
  have HB1 := zA (boxesE_of _ _ _ _ _ _ _ _ _ _ _ _ _ _ _ _ hb1)
  clear hb1
  obtain ⟨⟨x0, x1, x2⟩, ⟨y0, y1, y2, y3, y4⟩, -, -, -⟩ := HB1.out
  simp only [Nat.zero_add] at y0 y1 y2 y3 y4
  have hq := HB1.out.2.2.2.1
  have hq1 : w.heap.size + 1 < w1.heap.size := by omega
  have hq0 : w.heap.size < w1.heap.size := by omega
  go_wp2_with fail
  have hb0 := (Below.refl w1.heap.size w1).alloc (Nat.le_refl _) (cL o1 o2 o3 T.length c1 P.length c2 V.length c3 143)
  have HB1' := zA (HB1.out.on hb0)
  refine (HU.out trivial _ (HT.out.below HB1'.out.2.2.2.2) (HP.out.below HB1'.out.2.2.2.2)).mono ?_
  rintro e w2 ⟨rfl, hb2⟩
  have HB2 := zA (HB1'.out.on hb2)
  have HL2 : Hid (Led3 w2 w1.heap.size o1 o2 o3 T.length c1 P.length c2 V.length c3) := zA (Led3.below (w := w1.alloc (cL o1 o2 o3 T.length c1 P.length c2 V.length c3 143)) ⟨by simp [go_sem], by simp [go_sem], by simp [go_sem]⟩ hb2 (by simp))
  clear hb2 HB1 HB1' x0 x1 x2 y0 y1 y2 y3 y4 hb0
  obtain ⟨-, ⟨y0, y1, y2, y3, y4⟩, -, -, -⟩ := HB2.out
  obtain ⟨x0, x1, x2⟩ := HL2.out
  simp only [Nat.zero_add] at y0 y1 y2 y3 y4
  go_wp2_with fail
  refine (HEa.out trivial _ (HP.out.below HB2.out.2.2.2.2)).mono ?_
  rintro e w3 ⟨rfl, hb3⟩
  have HB3 := zA (HB2.out.on hb3)
  have HL3 := zA (HL2.out.below hb3 HL2.out.lt)
  clear hb3 HB2 HL2 x0 x1 x2 y0 y1 y2 y3 y4
  obtain ⟨-, ⟨y0, y1, y2, y3, y4⟩, -, -, -⟩ := HB3.out
  obtain ⟨x0, x1, x2⟩ := HL3.out
  simp only [Nat.zero_add] at y0 y1 y2 y3 y4
  go_wp2_with fail
  refine (HJ.out trivial trivial _ (HT.out.below HB3.out.2.2.2.2) (HP.out.below HB3.out.2.2.2.2) (HV.out.below HB3.out.2.2.2.2)).mono ?_
  rintro e w4 ⟨rfl, hb4⟩
  have HB4 := zA (HB3.out.on hb4)
  clear hb4 HB3 HL3 x0 x1 x2 y0 y1 y2 y3 y4
  obtain ⟨⟨x0, x1, x2⟩, ⟨y0, y1, y2, y3, y4⟩, -, -, -⟩ := HB4.out
  simp only [Nat.zero_add] at y0 y1 y2 y3 y4
  go_wp2_with fail
  clear x0 x1 x2 y0 y1 y2 y3 y4 HC HU HEa HJ hlens0
  refine wp_region_any (by kernel_rfl) ?_
  refine wpAny_take (i := 16) (v := .int .i64 J1) (fuel := 19) rfl (by kernel_rfl) (by kernel_rfl) (by kernel_rfl) (fun c a w h => h) (.inl ⟨rfl, fun w => by go_simp⟩) ?_
  refine wpAny_makers (fun w' => BoxesE w w' o1 o2 o3 T.length c1 P.length c2 V.length c3 ⟨a, g, s, m, z⟩) (phiE w.heap.size (w.heap.size + 1 + 1 + 1) o1 o2 o3 c1 c2 c3 T P V ⟨a, g, s, m, z⟩ J1) 16 3 #[true, false, false, false] [47, 48, 49, 50, 51, 52, 53, 54, 55, 56, 57, 58, 59, 60, 61, 62] (by kernel_rfl) (by kernel_rfl) (by kernel_rfl) (by kernel_rfl) 64 rfl (by kernel_rfl) phiE_below ?_ ?_ ?_
  ·exact HB4.out.on (Below.refl _ _).drew
  ·clear HB4
   intro k o hk ho aa w' hS hd hb K' hK
   have b2 : aa.tmps[2]?.getD undef = .pointer (some ⟨w.heap.size, 0, none⟩) := ev_of ((hb 2 (by intro j hj; revert j; decide +kernel)).trans rfl)
   have b3 : aa.tmps[3]?.getD undef = .pointer (some ⟨w.heap.size + 1, 0, none⟩) := ev_of ((hb 3 (by intro j hj; revert j; decide +kernel)).trans rfl)
   have b10 : aa.tmps[10]?.getD undef = .int .i64 J1 := ev_of ((hb 10 (by intro j hj; revert j; decide +kernel)).trans rfl)
   clear hb
   match k, hk, ho, hK with
   | 0, _, ho, hK =>
    simp only [List.getElem?_toArray, List.getElem?_cons_zero, Option.some.injEq] at ho
    subst ho
    simp only [] at hd hK
    clear hd
    go_simp
    exact hK _ _ rfl hS (Below.refl _ _)
   | 1, _, ho, hK =>
    simp only [List.getElem?_toArray, List.getElem?_cons_zero, List.getElem?_cons_succ, Option.some.injEq] at ho
    subst ho
    simp only [] at hd hK
    have d0 : aa.eval (.tmp 47) = .pointer (some ⟨w.heap.size, 0, none⟩) := hd ⟨0, .data⟩ (by simp) rfl
    have d0 := ev_of d0
    have hS' := hS
    obtain ⟨⟨x0, x1, x2⟩, ⟨y0, y1, y2, y3, y4⟩, -, -, -⟩ := hS'
    simp only [Nat.zero_add] at y0 y1 y2 y3 y4
    clear hd
    go_simp
    exact hK _ _ rfl hS (Below.refl _ _)
   | 2, _, ho, hK =>
    simp only [List.getElem?_toArray, List.getElem?_cons_zero, List.getElem?_cons_succ, Option.some.injEq] at ho
    subst ho
    simp only [] at hd hK
    have d1 : aa.eval (.tmp 48) = .slice o1 T.length c1 := hd ⟨1, .data⟩ (by simp) rfl
    have d1 := ev_of d1
    clear hd
    have hsz := hS.2.2.2.1
    go_simp
    refine (cloneK_any T o1 c1 w' (HT.out.below hS.2.2.2.2) (by omega)).mono ?_
    rintro e w'' ⟨⟨v, rfl, hv, hf⟩, hbd⟩
    exact hK _ _ ⟨hv, hf.mono (by omega)⟩ (hS.on hbd) hbd
   | 3, _, ho, hK =>
    simp only [List.getElem?_toArray, List.getElem?_cons_zero, List.getElem?_cons_succ, Option.some.injEq] at ho
    subst ho
    simp only [] at hd hK
    clear hd
    go_simp
    exact hK _ _ rfl hS (Below.refl _ _)
   | 4, _, ho, hK =>
    simp only [List.getElem?_toArray, List.getElem?_cons_zero, List.getElem?_cons_succ, Option.some.injEq] at ho
    subst ho
    simp only [] at hd hK
    have d0 : aa.eval (.tmp 50) = .pointer (some ⟨w.heap.size, 1, none⟩) := hd ⟨3, .data⟩ (by simp) rfl
    have d0 := ev_of d0
    have hS' := hS
    obtain ⟨⟨x0, x1, x2⟩, ⟨y0, y1, y2, y3, y4⟩, -, -, -⟩ := hS'
    simp only [Nat.zero_add] at y0 y1 y2 y3 y4
    clear hd
    go_simp
    exact hK _ _ rfl hS (Below.refl _ _)
   | 5, _, ho, hK =>
    simp only [List.getElem?_toArray, List.getElem?_cons_zero, List.getElem?_cons_succ, Option.some.injEq] at ho
    subst ho
    simp only [] at hd hK
    have hS' := hS
    obtain ⟨⟨x0, x1, x2⟩, ⟨y0, y1, y2, y3, y4⟩, -, -, -⟩ := hS'
    simp only [Nat.zero_add] at y0 y1 y2 y3 y4
    clear hd
    go_simp
    exact hK _ _ rfl hS (Below.refl _ _)
   | 6, _, ho, hK =>
    simp only [List.getElem?_toArray, List.getElem?_cons_zero, List.getElem?_cons_succ, Option.some.injEq] at ho
    subst ho
    simp only [] at hd hK
    have d0 : aa.eval (.tmp 52) = tp a g s m z := hd ⟨5, .data⟩ (by simp) rfl
    have d0 := ev_of d0
    clear hd
    have hbd := (Below.refl w'.heap.size w').alloc (Nat.le_refl _) (cP a g s m z 79)
    go_simp
    exact hK _ _ ⟨w'.heap.size, rfl, ⟨by simp [go_sem], by simp [go_sem], by simp [go_sem], by simp [go_sem], by simp [go_sem]⟩⟩ (hS.on hbd) hbd
   | 7, _, ho, hK =>
    simp only [List.getElem?_toArray, List.getElem?_cons_zero, List.getElem?_cons_succ, Option.some.injEq] at ho
    subst ho
    simp only [] at hd hK
    have d0 : aa.eval (.tmp 51) = .slice o2 P.length c2 := hd ⟨4, .data⟩ (by simp) rfl
    have d0 := ev_of d0
    obtain ⟨b, d1, h6⟩ : ∃ b, aa.eval (.tmp 53) = .slice (some ⟨b, 0, none⟩) 1 1 ∧ jN w' ⟨b, 0, none⟩ ⟨a, g, s, m, z⟩ := hd ⟨6, .data⟩ (by simp) rfl
    have d1 := ev_of d1
    clear hd
    have hbd := (Below.refl w'.heap.size w').alloc (Nat.le_refl _) (.cells #[.slice o2 P.length c2, .slice (some ⟨b, 0, none⟩) 1 1] 23)
    go_simp
    refine hK _ _ ⟨w'.heap.size, b, rfl, ?_⟩ (hS.on hbd) hbd
    intro q o L cap hq
    match q, hq with
    | 0, hq =>
     simp at hq
     obtain ⟨rfl, rfl, rfl⟩ := hq
     exact ⟨by simp [Addr.add, go_sem], HP.out.below (hS.on hbd).2.2.2.2, hn2⟩
    | 1, hq =>
     simp at hq
     obtain ⟨rfl, rfl, rfl⟩ := hq
     exact ⟨by simp [Addr.add, go_sem], tapsAt_one (h6.below hbd h6.lt), fun h => by cases h⟩
    | q + 2, hq => simp at hq
   | 8, _, ho, hK =>
    simp only [List.getElem?_toArray, List.getElem?_cons_zero, List.getElem?_cons_succ, Option.some.injEq] at ho
    subst ho
    simp only [] at hd hK
    obtain ⟨b, b', d1, h6⟩ : ∃ b b', aa.eval (.tmp 54) = .slice (some ⟨b, 0, none⟩) 2 2 ∧ jG w' ⟨b, 0, none⟩ [(o2, P, c2), (some ⟨b', 0, none⟩, [(⟨a, g, s, m, z⟩ : TP)], 1)] := hd ⟨7, .data⟩ (by simp) rfl
    have d1 := ev_of d1
    clear hd
    have hsz := hS.2.2.2.1
    go_simp
    refine (concatP_any _ _ 2 w' h6 (by simp) (by simp [xO]; omega)).mono ?_
    rintro e w'' ⟨⟨v, rfl, hv, hf⟩, hbd⟩
    exact hK _ _ ⟨by simpa using hv, hf.mono (by omega)⟩ (hS.on hbd) hbd
   | 9, _, ho, hK =>
    simp only [List.getElem?_toArray, List.getElem?_cons_zero, List.getElem?_cons_succ, Option.some.injEq] at ho
    subst ho
    simp only [] at hd hK
    clear hd
    go_simp
    exact hK _ _ rfl hS (Below.refl _ _)
   | 10, _, ho, hK =>
    simp only [List.getElem?_toArray, List.getElem?_cons_zero, List.getElem?_cons_succ, Option.some.injEq] at ho
    subst ho
    simp only [] at hd hK
    have d0 : aa.eval (.tmp 56) = .pointer (some ⟨w.heap.size, 2, none⟩) := hd ⟨9, .data⟩ (by simp) rfl
    have d0 := ev_of d0
    have hS' := hS
    obtain ⟨⟨x0, x1, x2⟩, ⟨y0, y1, y2, y3, y4⟩, -, -, -⟩ := hS'
    simp only [Nat.zero_add] at y0 y1 y2 y3 y4
    clear hd
    go_simp
    exact hK _ _ rfl hS (Below.refl _ _)
   | 11, _, ho, hK =>
    simp only [List.getElem?_toArray, List.getElem?_cons_zero, List.getElem?_cons_succ, Option.some.injEq] at ho
    subst ho
    simp only [] at hd hK
    clear hd
    go_simp
    exact hK _ _ rfl hS (Below.refl _ _)
   | 12, _, ho, hK =>
    simp only [List.getElem?_toArray, List.getElem?_cons_zero, List.getElem?_cons_succ, Option.some.injEq] at ho
    subst ho
    simp only [] at hd hK
    have d0 : aa.eval (.tmp 58) = .int .i64 J1 := hd ⟨11, .data⟩ (by simp) rfl
    have d0 := ev_of d0
    clear hd
    have hbd := (Below.refl w'.heap.size w').alloc (Nat.le_refl _) (.cells #[.int .i64 J1] 3)
    go_simp
    exact hK _ _ ⟨w'.heap.size, rfl, by simp [go_sem]⟩ (hS.on hbd) hbd
   | 13, _, ho, hK =>
    simp only [List.getElem?_toArray, List.getElem?_cons_zero, List.getElem?_cons_succ, Option.some.injEq] at ho
    subst ho
    simp only [] at hd hK
    have d0 : aa.eval (.tmp 57) = .slice o3 V.length c3 := hd ⟨10, .data⟩ (by simp) rfl
    have d0 := ev_of d0
    obtain ⟨b, d1, h6⟩ : ∃ b, aa.eval (.tmp 59) = .slice (some ⟨b, 0, none⟩) 1 1 ∧ w'.cell? ⟨b, 0, none⟩ = some (.int .i64 J1) := hd ⟨12, .data⟩ (by simp) rfl
    have d1 := ev_of d1
    clear hd
    have hbd := (Below.refl w'.heap.size w').alloc (Nat.le_refl _) (.cells #[.slice o3 V.length c3, .slice (some ⟨b, 0, none⟩) 1 1] 24)
    go_simp
    refine hK _ _ ⟨w'.heap.size, b, rfl, ?_⟩ (hS.on hbd) hbd
    intro q o L cap hq
    match q, hq with
    | 0, hq =>
     simp at hq
     obtain ⟨rfl, rfl, rfl⟩ := hq
     exact ⟨by simp [Addr.add, go_sem], HV.out.below (hS.on hbd).2.2.2.2, hn3⟩
    | 1, hq =>
     simp at hq
     obtain ⟨rfl, rfl, rfl⟩ := hq
     exact ⟨by simp [Addr.add, go_sem], intsAt_one (by rw [hbd.cell (World.block_lt_of_cell? w' _ h6)]; exact h6), fun h => by cases h⟩
    | q + 2, hq => simp at hq
   | 14, _, ho, hK =>
    simp only [List.getElem?_toArray, List.getElem?_cons_zero, List.getElem?_cons_succ, Option.some.injEq] at ho
    subst ho
    simp only [] at hd hK
    obtain ⟨b, b', d1, h6⟩ : ∃ b b', aa.eval (.tmp 60) = .slice (some ⟨b, 0, none⟩) 2 2 ∧ PiecesV w' ⟨b, 0, none⟩ [(o3, V, c3), (some ⟨b', 0, none⟩, [J1], 1)] := hd ⟨13, .data⟩ (by simp) rfl
    have d1 := ev_of d1
    clear hd
    have hsz := hS.2.2.2.1
    go_simp
    refine (concatV_any _ _ 2 w' h6 (by simp) (by simp [xO]; omega)).mono ?_
    rintro e w'' ⟨⟨v, rfl, hv, hf⟩, hbd⟩
    exact hK _ _ ⟨by simpa using hv, hf.mono (by omega)⟩ (hS.on hbd) hbd
   | 15, _, ho, hK =>
    simp only [List.getElem?_toArray, List.getElem?_cons_zero, List.getElem?_cons_succ, Option.some.injEq] at ho
    subst ho
    simp only [] at hd hK
    obtain ⟨⟨oa, ca, d1, ha⟩, fa⟩ : yJ w' (aa.eval (.tmp 49)) T ∧ zK (w.heap.size + 1 + 1 + 1) (aa.eval (.tmp 49)) := hd ⟨2, .data⟩ (by simp) rfl
    obtain ⟨⟨ob, cb, d2, hbb⟩, fb⟩ : zR w' (aa.eval (.tmp 55)) (P ++ [(⟨a, g, s, m, z⟩ : TP)]) ∧ zK (w.heap.size + 1 + 1 + 1) (aa.eval (.tmp 55)) := hd ⟨8, .data⟩ (by simp) rfl
    obtain ⟨⟨oc, cc, d3, hcc⟩, fc⟩ : zP w' (aa.eval (.tmp 61)) (V ++ [J1]) ∧ zK (w.heap.size + 1 + 1 + 1) (aa.eval (.tmp 61)) := hd ⟨14, .data⟩ (by simp) rfl
    rw [d1] at fa
    rw [d2] at fb
    rw [d3] at fc
    have hF : LedF (w.heap.size + 1 + 1 + 1) w' (lg oa ob oc T.length ca (P ++ [(⟨a, g, s, m, z⟩ : TP)]).length cb (V ++ [J1]).length cc) T (P ++ [(⟨a, g, s, m, z⟩ : TP)]) (V ++ [J1]) :=
     ⟨oa, ca, ob, cb, oc, cc, rfl, ⟨⟨oa, ca, rfl, ha⟩, fa⟩, ⟨⟨ob, cb, rfl, hbb⟩, fb⟩, ⟨⟨oc, cc, rfl, hcc⟩, fc⟩⟩
    have HF := zA hF
    generalize (P ++ [(⟨a, g, s, m, z⟩ : TP)]).length = np at *
    generalize (V ++ [J1]).length = nv at *
    have d1 := ev_of d1
    have d2 := ev_of d2
    have d3 := ev_of d3
    clear hd hF ha hbb hcc fa fb fc
    go_simp
    exact hK _ _ HF.out hS (Below.refl _ _)
   | k + 16, hk, _, _ => exact absurd hk (by omega)
  ·intro vals wf hS hφ
   obtain ⟨oa, ca, ob, cb, oc, cc, e15, ⟨a1, a2⟩, ⟨b1, b2⟩, ⟨d1, d2⟩⟩ : LedF (w.heap.size + 1 + 1 + 1) wf (vals 15) T (P ++ [(⟨a, g, s, m, z⟩ : TP)]) (V ++ [J1]) := hφ 15 (by decide)
   clear hφ HB4
   have hrow := hS.2.2.1
   have r0 := cell_of_row wf _ 0 _ _ _ hrow
   have r1 := cell_of_row wf _ 1 _ _ _ hrow
   have r2 := cell_of_row wf _ 2 _ _ _ hrow
   have s0 := frozen_of_row wf _ 0 _ _ hrow
   have s1 := frozen_of_row wf _ 1 _ _ hrow
   have s2 := frozen_of_row wf _ 2 _ _ hrow
   simp at r0 r1 r2
   clear hrow
   have HBf := zA hS
   clear hS
   have HVf := zA (And.intro (And.intro a1 a2) (And.intro (And.intro b1 b2) (And.intro d1 d2)))
   clear a1 a2 b1 b2 d1 d2
   simp only [putsD, Nat.zero_add, Nat.reduceAdd, e15]
   clear e15
   generalize hnp : (P ++ [(⟨a, g, s, m, z⟩ : TP)]).length = np at *
   generalize hnv : (V ++ [J1]).length = nv at *
   have HNP := zA hnp
   have HNV := zA hnv
   clear hnp hnv
   refine one_ready (i := 17) (by kernel_rfl) rfl rfl (fun K hK => ?_)
   go_simp
   have HLg : Hid (Led3 (((wf.setCell ⟨w.heap.size + 1 + 1, 0, none⟩ (.slice oa T.length ca)).setCell ⟨w.heap.size + 1 + 1, 1, none⟩ (.slice ob np cb)).setCell ⟨w.heap.size + 1 + 1, 2, none⟩ (.slice oc nv cc)) (w.heap.size + 1 + 1) oa ob oc T.length ca np cb nv cc) := by
    refine zA ⟨?_, ?_, ?_⟩
    all_goals simp [go_sem, r0, r1, r2]
   have HVg : Hid (LedN w.heap.size (((wf.setCell ⟨w.heap.size + 1 + 1, 0, none⟩ (.slice oa T.length ca)).setCell ⟨w.heap.size + 1 + 1, 1, none⟩ (.slice ob np cb)).setCell ⟨w.heap.size + 1 + 1, 2, none⟩ (.slice oc nv cc)) (lg oa ob oc T.length ca np cb nv cc) T (P ++ [(⟨a, g, s, m, z⟩ : TP)]) (V ++ [J1])) := by
    obtain ⟨⟨a1, a2⟩, ⟨b1, b2⟩, ⟨d1, d2⟩⟩ := HVf.out
    exact zA ⟨_, _, _, rfl, ⟨((a1.set a2 (by simp) _).set a2 (by simp) _).set a2 (by simp) _, a2.mono (by omega)⟩, ⟨((b1.set b2 (by simp) _).set b2 (by simp) _).set b2 (by simp) _, b2.mono (by omega)⟩, ⟨((d1.set d2 (by simp) _).set d2 (by simp) _).set d2 (by simp) _, d2.mono (by omega)⟩⟩
   have HBg : Hid (Below w.heap.size w (((wf.setCell ⟨w.heap.size + 1 + 1, 0, none⟩ (.slice oa T.length ca)).setCell ⟨w.heap.size + 1 + 1, 1, none⟩ (.slice ob np cb)).setCell ⟨w.heap.size + 1 + 1, 2, none⟩ (.slice oc nv cc))) :=
    zA (((HBf.out.2.2.2.2.setCell (p := ⟨w.heap.size + 1 + 1, 0, none⟩) (by simp; omega) _).setCell (p := ⟨w.heap.size + 1 + 1, 1, none⟩) (by simp; omega) _).setCell (p := ⟨w.heap.size + 1 + 1, 2, none⟩) (by simp; omega) _)
   refine hK _ _ ?_
   clear hK K HVf HBf r0 r1 r2 s0 s1 s2
   generalize ((wf.setCell ⟨w.heap.size + 1 + 1, 0, none⟩ (.slice oa T.length ca)).setCell ⟨w.heap.size + 1 + 1, 1, none⟩ (.slice ob np cb)).setCell ⟨w.heap.size + 1 + 1, 2, none⟩ (.slice oc nv cc) = wg at *
   refine one_ready (i := 18) (by kernel_rfl) rfl rfl (fun K hK => ?_)
   go_simp
   refine hK _ _ ?_
   clear hK K
   refine one_ready (i := 19) (by kernel_rfl) rfl rfl (fun K hK => ?_)
   go_simp
   refine hK _ _ ?_
   clear hK K
   refine wpAny_done (by kernel_rfl) ?_ _
   obtain ⟨g0, g1, g2⟩ := HLg.out
   go_wp2_with fail
   refine bodyPost_ret (v := .tuple #[lg oa ob oc T.length ca np cb nv cc, .int .i64 J1, .int .i64 0]) (by simp [results, Tryz.results152, go_sem, g0, g1, g2]) rfl ⟨⟨_, rfl, ?_⟩, HBg.out⟩
   exact HVg.out
 ·simp only []
  have hE : ¬ X = 0 := by simpa using h1
  rw [if_neg hE, if_neg hE, if_neg hE]
  go_enter Tryz.func152, Tryz.ntmps152
  go_wp2_with fail
  refine (HC.out _ (HT.out.below ?_) (HP.out.below ?_) (HV.out.below ?_)).mono ?_
  ·repeat (first | with_reducible exact Below.refl _ _ | with_reducible refine Below.alloc ?_ (by simp; try omega) _)
  ·repeat (first | with_reducible exact Below.refl _ _ | with_reducible refine Below.alloc ?_ (by simp; try omega) _)
  ·repeat (first | with_reducible exact Below.refl _ _ | with_reducible refine Below.alloc ?_ (by simp; try omega) _)
  rintro e w1 ⟨rfl, hb1⟩
  have HB1 := zA (boxesE_of _ _ _ _ _ _ _ _ _ _ _ _ _ _ _ _ hb1)
  clear hb1
  obtain ⟨⟨x0, x1, x2⟩, ⟨y0, y1, y2, y3, y4⟩, -, -, -⟩ := HB1.out
  simp only [Nat.zero_add] at y0 y1 y2 y3 y4
  have hq := HB1.out.2.2.2.1
  have hq1 : w.heap.size + 1 < w1.heap.size := by omega
  have hq0 : w.heap.size < w1.heap.size := by omega
  have hrow := HB1.out.2.2.1
  have r0 := cell_of_row _ _ 0 _ _ _ hrow
  have r1 := cell_of_row _ _ 1 _ _ _ hrow
  have r2 := cell_of_row _ _ 2 _ _ _ hrow
  have s0 := frozen_of_row _ _ 0 _ _ hrow
  have s1 := frozen_of_row _ _ 1 _ _ hrow
  have s2 := frozen_of_row _ _ 2 _ _ hrow
  simp at r0 r1 r2
  clear hrow
  go_wp2_with fail
  refine bodyPost_ret (v := .tuple #[lg none none none 0 0 0 0 0 0, .int .i64 0, .int .i64 X]) (by simp [results, Tryz.results152, go_sem, *]) rfl ⟨⟨_, rfl, ?_⟩, ?_⟩
  ·exact yV _ _
  ·repeat (first | with_reducible refine Below.setCell ?_ (by simp; try omega) _ | exact HB1.out.2.2.2.2)
 ·simp only []
  have hE : ¬ U = 0 := by simpa using h2
  rw [if_neg hE, if_neg hE, if_neg hE]
  go_enter Tryz.func152, Tryz.ntmps152
  go_wp2_with fail
  refine (HC.out _ (HT.out.below ?_) (HP.out.below ?_) (HV.out.below ?_)).mono ?_
  ·repeat (first | with_reducible exact Below.refl _ _ | with_reducible refine Below.alloc ?_ (by simp; try omega) _)
  ·repeat (first | with_reducible exact Below.refl _ _ | with_reducible refine Below.alloc ?_ (by simp; try omega) _)
  ·repeat (first | with_reducible exact Below.refl _ _ | with_reducible refine Below.alloc ?_ (by simp; try omega) _)
  rintro e w1 ⟨rfl, hb1⟩
  have HB1 := zA (boxesE_of _ _ _ _ _ _ _ _ _ _ _ _ _ _ _ _ hb1)
  clear hb1
  obtain ⟨⟨x0, x1, x2⟩, ⟨y0, y1, y2, y3, y4⟩, -, -, -⟩ := HB1.out
  simp only [Nat.zero_add] at y0 y1 y2 y3 y4
  have hq := HB1.out.2.2.2.1
  have hq1 : w.heap.size + 1 < w1.heap.size := by omega
  have hq0 : w.heap.size < w1.heap.size := by omega
  go_wp2_with fail
  have hb0 := (Below.refl w1.heap.size w1).alloc (Nat.le_refl _) (cL o1 o2 o3 T.length c1 P.length c2 V.length c3 143)
  have HB1' := zA (HB1.out.on hb0)
  refine (HU.out trivial _ (HT.out.below HB1'.out.2.2.2.2) (HP.out.below HB1'.out.2.2.2.2)).mono ?_
  rintro e w2 ⟨rfl, hb2⟩
  have HB2 := zA (HB1'.out.on hb2)
  have HL2 : Hid (Led3 w2 w1.heap.size o1 o2 o3 T.length c1 P.length c2 V.length c3) := zA (Led3.below (w := w1.alloc (cL o1 o2 o3 T.length c1 P.length c2 V.length c3 143)) ⟨by simp [go_sem], by simp [go_sem], by simp [go_sem]⟩ hb2 (by simp))
  clear hb2 HB1 HB1' x0 x1 x2 y0 y1 y2 y3 y4 hb0
  obtain ⟨-, ⟨y0, y1, y2, y3, y4⟩, -, -, -⟩ := HB2.out
  obtain ⟨x0, x1, x2⟩ := HL2.out
  simp only [Nat.zero_add] at y0 y1 y2 y3 y4
  have hrow := HB2.out.2.2.1
  have r0 := cell_of_row _ _ 0 _ _ _ hrow
  have r1 := cell_of_row _ _ 1 _ _ _ hrow
  have r2 := cell_of_row _ _ 2 _ _ _ hrow
  have s0 := frozen_of_row _ _ 0 _ _ hrow
  have s1 := frozen_of_row _ _ 1 _ _ hrow
  have s2 := frozen_of_row _ _ 2 _ _ hrow
  simp at r0 r1 r2
  clear hrow
  go_wp2_with fail
  refine bodyPost_ret (v := .tuple #[lg none none none 0 0 0 0 0 0, .int .i64 0, .int .i64 U]) (by simp [results, Tryz.results152, go_sem, *]) rfl ⟨⟨_, rfl, ?_⟩, ?_⟩
  ·exact yV _ _
  ·repeat (first | with_reducible refine Below.setCell ?_ (by simp; try omega) _ | exact HB2.out.2.2.2.2)
 ·simp only []
  rw [if_neg (show ¬ (4 : Int) = 0 by decide), if_neg (show ¬ (4 : Int) = 0 by decide), if_neg (show ¬ (4 : Int) = 0 by decide)]
  go_enter Tryz.func152, Tryz.ntmps152
  go_wp2_with fail
  refine (HC.out _ (HT.out.below ?_) (HP.out.below ?_) (HV.out.below ?_)).mono ?_
  ·repeat (first | with_reducible exact Below.refl _ _ | with_reducible refine Below.alloc ?_ (by simp; try omega) _)
  ·repeat (first | with_reducible exact Below.refl _ _ | with_reducible refine Below.alloc ?_ (by simp; try omega) _)
  ·repeat (first | with_reducible exact Below.refl _ _ | with_reducible refine Below.alloc ?_ (by simp; try omega) _)
  rintro e w1 ⟨rfl, hb1⟩
  have HB1 := zA (boxesE_of _ _ _ _ _ _ _ _ _ _ _ _ _ _ _ _ hb1)
  clear hb1
  obtain ⟨⟨x0, x1, x2⟩, ⟨y0, y1, y2, y3, y4⟩, -, -, -⟩ := HB1.out
  simp only [Nat.zero_add] at y0 y1 y2 y3 y4
  have hq := HB1.out.2.2.2.1
  have hq1 : w.heap.size + 1 < w1.heap.size := by omega
  have hq0 : w.heap.size < w1.heap.size := by omega
  go_wp2_with fail
  have hb0 := (Below.refl w1.heap.size w1).alloc (Nat.le_refl _) (cL o1 o2 o3 T.length c1 P.length c2 V.length c3 143)
  have HB1' := zA (HB1.out.on hb0)
  refine (HU.out trivial _ (HT.out.below HB1'.out.2.2.2.2) (HP.out.below HB1'.out.2.2.2.2)).mono ?_
  rintro e w2 ⟨rfl, hb2⟩
  have HB2 := zA (HB1'.out.on hb2)
  have HL2 : Hid (Led3 w2 w1.heap.size o1 o2 o3 T.length c1 P.length c2 V.length c3) := zA (Led3.below (w := w1.alloc (cL o1 o2 o3 T.length c1 P.length c2 V.length c3 143)) ⟨by simp [go_sem], by simp [go_sem], by simp [go_sem]⟩ hb2 (by simp))
  clear hb2 HB1 HB1' x0 x1 x2 y0 y1 y2 y3 y4 hb0
  obtain ⟨-, ⟨y0, y1, y2, y3, y4⟩, -, -, -⟩ := HB2.out
  obtain ⟨x0, x1, x2⟩ := HL2.out
  simp only [Nat.zero_add] at y0 y1 y2 y3 y4
  go_wp2_with fail
  refine (HEa.out trivial _ (HP.out.below HB2.out.2.2.2.2)).mono ?_
  rintro e w3 ⟨rfl, hb3⟩
  have HB3 := zA (HB2.out.on hb3)
  have HL3 := zA (HL2.out.below hb3 HL2.out.lt)
  clear hb3 HB2 HL2 x0 x1 x2 y0 y1 y2 y3 y4
  obtain ⟨-, ⟨y0, y1, y2, y3, y4⟩, -, -, -⟩ := HB3.out
  obtain ⟨x0, x1, x2⟩ := HL3.out
  simp only [Nat.zero_add] at y0 y1 y2 y3 y4
  have hrow := HB3.out.2.2.1
  have r0 := cell_of_row _ _ 0 _ _ _ hrow
  have r1 := cell_of_row _ _ 1 _ _ _ hrow
  have r2 := cell_of_row _ _ 2 _ _ _ hrow
  have s0 := frozen_of_row _ _ 0 _ _ hrow
  have s1 := frozen_of_row _ _ 1 _ _ hrow
  have s2 := frozen_of_row _ _ 2 _ _ hrow
  simp at r0 r1 r2
  clear hrow
  go_wp2_with fail
  refine bodyPost_ret (v := .tuple #[lg none none none 0 0 0 0 0 0, .int .i64 0, .int .i64 4]) (by simp [results, Tryz.results152, go_sem, *]) rfl ⟨⟨_, rfl, ?_⟩, ?_⟩
  ·exact yV _ _
  ·repeat (first | with_reducible refine Below.setCell ?_ (by simp; try omega) _ | exact HB3.out.2.2.2.2)
 ·simp only [] at h4 ⊢
  have hE : ¬ J2 = 0 := by simpa using h4
  rw [if_neg hE, if_neg hE, if_neg hE]
  go_enter Tryz.func152, Tryz.ntmps152
  go_wp2_with fail
  refine (HC.out _ (HT.out.below ?_) (HP.out.below ?_) (HV.out.below ?_)).mono ?_
  ·repeat (first | with_reducible exact Below.refl _ _ | with_reducible refine Below.alloc ?_ (by simp; try omega) _)
  ·repeat (first | with_reducible exact Below.refl _ _ | with_reducible refine Below.alloc ?_ (by simp; try omega) _)
  ·repeat (first | with_reducible exact Below.refl _ _ | with_reducible refine Below.alloc ?_ (by simp; try omega) _)
  rintro e w1 ⟨rfl, hb1⟩
  have HB1 := zA (boxesE_of _ _ _ _ _ _ _ _ _ _ _ _ _ _ _ _ hb1)
  clear hb1
  obtain ⟨⟨x0, x1, x2⟩, ⟨y0, y1, y2, y3, y4⟩, -, -, -⟩ := HB1.out
  simp only [Nat.zero_add] at y0 y1 y2 y3 y4
  have hq := HB1.out.2.2.2.1
  have hq1 : w.heap.size + 1 < w1.heap.size := by omega
  have hq0 : w.heap.size < w1.heap.size := by omega
  go_wp2_with fail
  have hb0 := (Below.refl w1.heap.size w1).alloc (Nat.le_refl _) (cL o1 o2 o3 T.length c1 P.length c2 V.length c3 143)
  have HB1' := zA (HB1.out.on hb0)
  refine (HU.out trivial _ (HT.out.below HB1'.out.2.2.2.2) (HP.out.below HB1'.out.2.2.2.2)).mono ?_
  rintro e w2 ⟨rfl, hb2⟩
  have HB2 := zA (HB1'.out.on hb2)
  have HL2 : Hid (Led3 w2 w1.heap.size o1 o2 o3 T.length c1 P.length c2 V.length c3) := zA (Led3.below (w := w1.alloc (cL o1 o2 o3 T.length c1 P.length c2 V.length c3 143)) ⟨by simp [go_sem], by simp [go_sem], by simp [go_sem]⟩ hb2 (by simp))
  clear hb2 HB1 HB1' x0 x1 x2 y0 y1 y2 y3 y4 hb0
  obtain ⟨-, ⟨y0, y1, y2, y3, y4⟩, -, -, -⟩ := HB2.out
  obtain ⟨x0, x1, x2⟩ := HL2.out
  simp only [Nat.zero_add] at y0 y1 y2 y3 y4
  go_wp2_with fail
  refine (HEa.out trivial _ (HP.out.below HB2.out.2.2.2.2)).mono ?_
  rintro e w3 ⟨rfl, hb3⟩
  have HB3 := zA (HB2.out.on hb3)
  have HL3 := zA (HL2.out.below hb3 HL2.out.lt)
  clear hb3 HB2 HL2 x0 x1 x2 y0 y1 y2 y3 y4
  obtain ⟨-, ⟨y0, y1, y2, y3, y4⟩, -, -, -⟩ := HB3.out
  obtain ⟨x0, x1, x2⟩ := HL3.out
  simp only [Nat.zero_add] at y0 y1 y2 y3 y4
  go_wp2_with fail
  refine (HJ.out trivial trivial _ (HT.out.below HB3.out.2.2.2.2) (HP.out.below HB3.out.2.2.2.2) (HV.out.below HB3.out.2.2.2.2)).mono ?_
  rintro e w4 ⟨rfl, hb4⟩
  have HB4 := zA (HB3.out.on hb4)
  clear hb4 HB3 HL3 x0 x1 x2 y0 y1 y2 y3 y4
  obtain ⟨⟨x0, x1, x2⟩, ⟨y0, y1, y2, y3, y4⟩, -, -, -⟩ := HB4.out
  simp only [Nat.zero_add] at y0 y1 y2 y3 y4
  have hrow := HB4.out.2.2.1
  have r0 := cell_of_row _ _ 0 _ _ _ hrow
  have r1 := cell_of_row _ _ 1 _ _ _ hrow
  have r2 := cell_of_row _ _ 2 _ _ _ hrow
  have s0 := frozen_of_row _ _ 0 _ _ hrow
  have s1 := frozen_of_row _ _ 1 _ _ hrow
  have s2 := frozen_of_row _ _ 2 _ _ hrow
  simp at r0 r1 r2
  clear hrow
  go_wp2_with fail
  refine bodyPost_ret (v := .tuple #[lg none none none 0 0 0 0 0 0, .int .i64 J1, .int .i64 J2]) (by simp [results, Tryz.results152, go_sem, *]) rfl ⟨⟨_, rfl, ?_⟩, ?_⟩
  ·exact yV _ _
  ·repeat (first | with_reducible refine Below.setCell ?_ (by simp; try omega) _ | exact HB4.out.2.2.2.2)
 ·simp only [] at h4 ⊢
  rw [if_neg (show ¬ (2 : Int) = 0 by decide), if_neg (show ¬ (2 : Int) = 0 by decide), if_neg (show ¬ (2 : Int) = 0 by decide)]
  have h4' : J2 = 0 := by simpa using h4
  subst h4'
  go_enter Tryz.func152, Tryz.ntmps152
  go_wp2_with fail
  refine (HC.out _ (HT.out.below ?_) (HP.out.below ?_) (HV.out.below ?_)).mono ?_
  ·repeat (first | with_reducible exact Below.refl _ _ | with_reducible refine Below.alloc ?_ (by simp; try omega) _)
  ·repeat (first | with_reducible exact Below.refl _ _ | with_reducible refine Below.alloc ?_ (by simp; try omega) _)
  ·repeat (first | with_reducible exact Below.refl _ _ | with_reducible refine Below.alloc ?_ (by simp; try omega) _)
  rintro e w1 ⟨rfl, hb1⟩
  have HB1 := zA (boxesE_of _ _ _ _ _ _ _ _ _ _ _ _ _ _ _ _ hb1)
  clear hb1
  obtain ⟨⟨x0, x1, x2⟩, ⟨y0, y1, y2, y3, y4⟩, -, -, -⟩ := HB1.out
  simp only [Nat.zero_add] at y0 y1 y2 y3 y4
  have hq := HB1.out.2.2.2.1
  have hq1 : w.heap.size + 1 < w1.heap.size := by omega
  have hq0 : w.heap.size < w1.heap.size := by omega
  go_wp2_with fail
  have hb0 := (Below.refl w1.heap.size w1).alloc (Nat.le_refl _) (cL o1 o2 o3 T.length c1 P.length c2 V.length c3 143)
  have HB1' := zA (HB1.out.on hb0)
  refine (HU.out trivial _ (HT.out.below HB1'.out.2.2.2.2) (HP.out.below HB1'.out.2.2.2.2)).mono ?_
  rintro e w2 ⟨rfl, hb2⟩
  have HB2 := zA (HB1'.out.on hb2)
  have HL2 : Hid (Led3 w2 w1.heap.size o1 o2 o3 T.length c1 P.length c2 V.length c3) := zA (Led3.below (w := w1.alloc (cL o1 o2 o3 T.length c1 P.length c2 V.length c3 143)) ⟨by simp [go_sem], by simp [go_sem], by simp [go_sem]⟩ hb2 (by simp))
  clear hb2 HB1 HB1' x0 x1 x2 y0 y1 y2 y3 y4 hb0
  obtain ⟨-, ⟨y0, y1, y2, y3, y4⟩, -, -, -⟩ := HB2.out
  obtain ⟨x0, x1, x2⟩ := HL2.out
  simp only [Nat.zero_add] at y0 y1 y2 y3 y4
  go_wp2_with fail
  refine (HEa.out trivial _ (HP.out.below HB2.out.2.2.2.2)).mono ?_
  rintro e w3 ⟨rfl, hb3⟩
  have HB3 := zA (HB2.out.on hb3)
  have HL3 := zA (HL2.out.below hb3 HL2.out.lt)
  clear hb3 HB2 HL2 x0 x1 x2 y0 y1 y2 y3 y4
  obtain ⟨-, ⟨y0, y1, y2, y3, y4⟩, -, -, -⟩ := HB3.out
  obtain ⟨x0, x1, x2⟩ := HL3.out
  simp only [Nat.zero_add] at y0 y1 y2 y3 y4
  go_wp2_with fail
  refine (HJ.out trivial trivial _ (HT.out.below HB3.out.2.2.2.2) (HP.out.below HB3.out.2.2.2.2) (HV.out.below HB3.out.2.2.2.2)).mono ?_
  rintro e w4 ⟨rfl, hb4⟩
  have HB4 := zA (HB3.out.on hb4)
  clear hb4 HB3 HL3 x0 x1 x2 y0 y1 y2 y3 y4
  obtain ⟨⟨x0, x1, x2⟩, ⟨y0, y1, y2, y3, y4⟩, -, -, -⟩ := HB4.out
  simp only [Nat.zero_add] at y0 y1 y2 y3 y4
  have hrow := HB4.out.2.2.1
  have r0 := cell_of_row _ _ 0 _ _ _ hrow
  have r1 := cell_of_row _ _ 1 _ _ _ hrow
  have r2 := cell_of_row _ _ 2 _ _ _ hrow
  have s0 := frozen_of_row _ _ 0 _ _ hrow
  have s1 := frozen_of_row _ _ 1 _ _ hrow
  have s2 := frozen_of_row _ _ 2 _ _ hrow
  simp at r0 r1 r2
  clear hrow
  go_wp2_with fail
  refine bodyPost_ret (v := .tuple #[lg none none none 0 0 0 0 0 0, .int .i64 0, .int .i64 2]) (by simp [results, Tryz.results152, go_sem, *]) rfl ⟨⟨_, rfl, ?_⟩, ?_⟩
  ·exact yV _ _
  ·repeat (first | with_reducible refine Below.setCell ?_ (by simp; try omega) _ | exact HB4.out.2.2.2.2)
theorem xW.opened {w : World} {v : Value} {T : List TK} {P : List TP} {V : List Int} (h : xW w v T P V) : ∃ o1 c1 o2 c2 o3 c3, v = lg o1 o2 o3 T.length c1 P.length c2 V.length c3 ∧ zV w o1 T ∧ zI w o2 P ∧ zH w o3 V ∧
  (T.length ≤ c1 ∧ P.length ≤ c2 ∧ V.length ≤ c3) ∧ (o1 = none → c1 = 0) ∧ (o2 = none → c2 = 0) ∧ (o3 = none → c3 = 0) := by
 obtain ⟨v1, v2, v3, rfl, ⟨o1, c1, rfl, a1, a2, a3⟩, ⟨o2, c2, rfl, b1, b2, b3⟩, ⟨o3, c3, rfl, d1, d2, d3⟩⟩ := h
 exact ⟨o1, c1, o2, c2, o3, c3, rfl, a1, b1, d1, ⟨a2, b2, d2⟩, a3, b3, d3⟩
def xP (T : List TK) (P : List TP) (V : List Int) : Prop := T.length ≤ 9223372036854775807 ∧ P.length ≤ 9223372036854775807 ∧ V.length ≤ 9223372036854775807
theorem checkV {w : World} {v : Value} {T : List TK} {P : List TP} {V : List Int} (h : xW w v T P V) (hl : xP T P V) : Calls Tryz.prog 51 #[v] w fun e w' => e = .returned (.int .i64 (xC T P V)) ∧ Below w.heap.size w w' := by
 obtain ⟨o1, c1, o2, c2, o3, c3, rfl, a1, a2, a3, ⟨-, l2, l3⟩, -⟩ := h.opened
 exact checkLed_any T P V o1 o2 o3 c1 c2 c3 w a1 a2 a3 hl.1 hl.2.1 hl.2.2 l2 l3
theorem taps_of_led {w : World} {o1 o2 o3 : Option Addr} {n1 c1 c2 n3 c3 : Nat} {T : List TK} {P : List TP} {V : List Int} (h : xW w (lg o1 o2 o3 n1 c1 P.length c2 n3 c3) T P V) : zI w o2 P := by
 obtain ⟨q1, d1, q2, d2, q3, d3, e, -, h2, -⟩ := h.opened
 simp at e
 obtain ⟨-, ⟨rfl, -⟩, -⟩ := e
 exact h2
def yP (T : List TK) (P : List TP) (V : List Int) (dv : Int) (D : List Int) (G : List GT) (W : List VW) : Int :=
 if xC T P V = 0 then (if yZ dv D = 0 then (if jB dv P G = 0 then yL W else jB dv P G) else yZ dv D) else xC T P V
theorem qB (T : List TK) (P : List TP) (V : List Int) (dv : Int) (D : List Int) (G : List GT) (W : List VW) (o1 o2 o3 od og ov : Option Addr) (c1 c2 c3 cd cg cv : Nat) (w : World)
  (hL : xW w (lg o1 o2 o3 T.length c1 P.length c2 V.length c3) T P V) (hl : xP T P V) (hD : zH w od D) (hlD : D.length ≤ 9223372036854775807) (hG : xA w og G) (hok : GatesOk G) (hW : zZ w ov W) (hlW : W.length ≤ 9223372036854775807) :
  Calls Tryz.prog 15 #[stV o1 o2 o3 T.length c1 P.length c2 V.length c3 dv od D.length cd og G.length cg ov W.length cv] w fun e w' => e = .returned (.int .i64 (yP T P V dv D G W)) ∧ Below w.heap.size w w' := by
 have HK := zA ((zL.nil w).more (.cells #[.slice o1 T.length c1, .slice o2 P.length c2, .slice o3 V.length c3, .int .i64 dv, .slice od D.length cd, .slice og G.length cg, .slice ov W.length cv] 32) (by simp))
 have HL := zA hL
 have HD := zA hD
 have HG := zA hG
 have HW := zA hW
 have HC1 := zA (fun X (h : xW X (lg o1 o2 o3 T.length c1 P.length c2 V.length c3) T P V) => checkV h hl)
 have HC2 := zA (fun X (h : zH X od D) => denCheck_any dv D od cd X h hlD)
 have HC3 := zA (fun X (h : xW X (lg o1 o2 o3 T.length c1 P.length c2 V.length c3) T P V) (h' : xA X og G) => checkGates_any o1 o2 o3 T.length c1 c2 V.length c3 dv od D.length cd og cg ov W.length cv P G X (taps_of_led h) hl.2.1 h' hok)
 have HC4 := zA (fun X (h : zZ X ov W) => leadCheck_any ov cv W X h hlW)
 clear hL hD hG hW
 unfold yP
 generalize xC T P V = E1 at *
 generalize yZ dv D = E2 at *
 generalize jB dv P G = E3 at *
 generalize yL W = E4 at *
 obtain ⟨k0, k1, k2, k3, k4, k5, k6⟩ := HK.out.c7 0 w.heap.size rfl rfl rfl rfl rfl rfl rfl rfl rfl
 rcases h1 : (E1 != 0) with _ | _
 ·obtain rfl : E1 = 0 := by simpa using h1
  clear h1
  rw [if_pos rfl]
  rcases h2 : (E2 != 0) with _ | _
  ·obtain rfl : E2 = 0 := by simpa using h2
   clear h2
   rw [if_pos rfl]
   rcases h3 : (E3 != 0) with _ | _
   ·obtain rfl : E3 = 0 := by simpa using h3
    clear h3
    rw [if_pos rfl]
    go_enter Tryz.func15, Tryz.ntmps15
    go_wp2_with fail
    refine (HC1.out _ (HL.out.below HK.out.2.2)).mono ?_
    rintro e w1 ⟨rfl, hb⟩
    have HK1 := zA (HK.out.on hb)
    clear hb HK k0 k1 k2 k3 k4 k5 k6
    obtain ⟨k0, k1, k2, k3, k4, k5, k6⟩ := HK1.out.c7 0 w.heap.size rfl rfl rfl rfl rfl rfl rfl rfl rfl
    go_wp2_with fail
    refine (HC2.out _ (HD.out.below HK1.out.2.2)).mono ?_
    rintro e w2 ⟨rfl, hb⟩
    have HK2 := zA (HK1.out.on hb)
    clear hb HK1 k0 k1 k2 k3 k4 k5 k6
    obtain ⟨k0, k1, k2, k3, k4, k5, k6⟩ := HK2.out.c7 0 w.heap.size rfl rfl rfl rfl rfl rfl rfl rfl rfl
    go_wp2_with fail
    refine (HC3.out _ (HL.out.below HK2.out.2.2) (HG.out.below HK2.out.2.2)).mono ?_
    rintro e w3 ⟨rfl, hb⟩
    have HK3 := zA (HK2.out.on hb)
    clear hb HK2 k0 k1 k2 k3 k4 k5 k6
    obtain ⟨k0, k1, k2, k3, k4, k5, k6⟩ := HK3.out.c7 0 w.heap.size rfl rfl rfl rfl rfl rfl rfl rfl rfl
    go_wp2_with fail
    refine (HC4.out _ (HW.out.below HK3.out.2.2)).mono ?_
    rintro e w4 ⟨rfl, hb⟩
    have HK4 := zA (HK3.out.on hb)
    clear hb HK3 k0 k1 k2 k3 k4 k5 k6
    obtain ⟨k0, k1, k2, k3, k4, k5, k6⟩ := HK4.out.c7 0 w.heap.size rfl rfl rfl rfl rfl rfl rfl rfl rfl
    go_wp2_with fail
    go_ret
    exact ⟨rfl, HK4.out.2.2⟩
   ·rw [if_neg (by simpa using h3)]
    go_enter Tryz.func15, Tryz.ntmps15
    go_wp2_with fail
    refine (HC1.out _ (HL.out.below HK.out.2.2)).mono ?_
    rintro e w1 ⟨rfl, hb⟩
    have HK1 := zA (HK.out.on hb)
    clear hb HK k0 k1 k2 k3 k4 k5 k6
    obtain ⟨k0, k1, k2, k3, k4, k5, k6⟩ := HK1.out.c7 0 w.heap.size rfl rfl rfl rfl rfl rfl rfl rfl rfl
    go_wp2_with fail
    refine (HC2.out _ (HD.out.below HK1.out.2.2)).mono ?_
    rintro e w2 ⟨rfl, hb⟩
    have HK2 := zA (HK1.out.on hb)
    clear hb HK1 k0 k1 k2 k3 k4 k5 k6
    obtain ⟨k0, k1, k2, k3, k4, k5, k6⟩ := HK2.out.c7 0 w.heap.size rfl rfl rfl rfl rfl rfl rfl rfl rfl
    go_wp2_with fail
    refine (HC3.out _ (HL.out.below HK2.out.2.2) (HG.out.below HK2.out.2.2)).mono ?_
    rintro e w3 ⟨rfl, hb⟩
    have HK3 := zA (HK2.out.on hb)
    clear hb HK2 k0 k1 k2 k3 k4 k5 k6
    obtain ⟨k0, k1, k2, k3, k4, k5, k6⟩ := HK3.out.c7 0 w.heap.size rfl rfl rfl rfl rfl rfl rfl rfl rfl
    go_wp2_with fail
    go_ret
    exact ⟨rfl, HK3.out.2.2⟩
  ·rw [if_neg (by simpa using h2)]
   go_enter Tryz.func15, Tryz.ntmps15
   go_wp2_with fail
   refine (HC1.out _ (HL.out.below HK.out.2.2)).mono ?_
   rintro e w1 ⟨rfl, hb⟩
   have HK1 := zA (HK.out.on hb)
   clear hb HK k0 k1 k2 k3 k4 k5 k6
   obtain ⟨k0, k1, k2, k3, k4, k5, k6⟩ := HK1.out.c7 0 w.heap.size rfl rfl rfl rfl rfl rfl rfl rfl rfl
   go_wp2_with fail
   refine (HC2.out _ (HD.out.below HK1.out.2.2)).mono ?_
   rintro e w2 ⟨rfl, hb⟩
   have HK2 := zA (HK1.out.on hb)
   clear hb HK1 k0 k1 k2 k3 k4 k5 k6
   obtain ⟨k0, k1, k2, k3, k4, k5, k6⟩ := HK2.out.c7 0 w.heap.size rfl rfl rfl rfl rfl rfl rfl rfl rfl
   go_wp2_with fail
   go_ret
   exact ⟨rfl, HK2.out.2.2⟩
 ·rw [if_neg (by simpa using h1)]
  go_enter Tryz.func15, Tryz.ntmps15
  go_wp2_with fail
  refine (HC1.out _ (HL.out.below HK.out.2.2)).mono ?_
  rintro e w1 ⟨rfl, hb⟩
  have HK1 := zA (HK.out.on hb)
  clear hb HK k0 k1 k2 k3 k4 k5 k6
  obtain ⟨k0, k1, k2, k3, k4, k5, k6⟩ := HK1.out.c7 0 w.heap.size rfl rfl rfl rfl rfl rfl rfl rfl rfl
  go_wp2_with fail
  go_ret
  exact ⟨rfl, HK1.out.2.2⟩
theorem freshList_any (v : Int) (D : List Int) (o : Option Addr) (c : Nat) (w : World) (hD : zH w o D) (hlen : D.length ≤ 60) :
  Calls Tryz.prog 74 #[dn v o D.length c] w fun e w' => (∃ o' c', e = .returned (dn v o' D.length c') ∧ zP w' (.slice o' D.length c') D ∧ zK w.heap.size (.slice o' D.length c')) ∧ Below w.heap.size w w' := by
 have HG := zA (((zL.nil w).more (.cells #[.int .i64 v, .slice o D.length c] 28) (by simp)).more (.cells #[.int .i64 0, .slice none 0 0] 28) (by simp))
 have HD := zA hD
 clear hD
 go_enter Tryz.func74, Tryz.ntmps74
 go_wp2_with fail
 refine zJ (fun w' => zL w w' [.cells #[.int .i64 v, .slice o D.length c] 28]) [0, 1, 2, 3] 3 (by rfl) (by kernel_rfl) (by kernel_rfl) (by kernel_rfl) (fun c d v a w h => by cases d <;> exact h) ?_ ?_
 ·exact zL.sub (more := [.cells #[.int .i64 0, .slice none 0 0] 28]) (HG.out.on (Below.refl _ _).drew)
 refine zB (.pointer (some ⟨w.heap.size, 0, none⟩)) rfl rfl (fun w' hS => ?_) ?_
 ·go_simp
 refine zB (.int .i64 v) rfl rfl (fun w' hS => ?_) ?_
 ·have x0 := hS.cell 0 0 w.heap.size _ _ _ rfl rfl rfl
  go_simp
 refine zB (.pointer (some ⟨w.heap.size, 1, none⟩)) rfl rfl (fun w' hS => ?_) ?_
 ·go_simp
 refine zB (.slice o D.length c) rfl rfl (fun w' hS => ?_) ?_
 ·have x1 := hS.cell 0 1 w.heap.size _ _ _ rfl rfl rfl
  go_simp
 refine zE ?_
 have HGd := zA (HG.out.on (Below.refl _ _).drew)
 clear HG
 generalize (World.drew _) = wd at *
 have hsz := HGd.out.2.1
 refine oR 4 rfl rfl fun K hK => ?_
 go_simp
 refine (jL D o c wd (HD.out.below HGd.out.2.2) (by omega)).mono ?_
 rintro e w1 ⟨⟨x, rfl, hx, hf⟩, hb⟩
 have HG1 := zA (HGd.out.on hb)
 obtain ⟨oq, cq, rfl, hq⟩ := hx
 have HX := zA (show zP w1 (.slice oq D.length cq) D from ⟨oq, cq, rfl, hq⟩)
 have HF := zA (hf.mono (show w.heap.size + 1 + 1 ≤ wd.heap.size by simpa using hsz))
 have HS1 := zA (zL.sub (os := [.cells #[.int .i64 v, .slice o D.length c] 28]) (more := [.cells #[.int .i64 0, .slice none 0 0] 28]) HG1.out)
 refine hK _ _ HS1.out ?_
 clear hK K hb HGd hq hf hsz
 refine yB (fuel := 1) (by kernel_rfl) (fun c d v a w h => by cases d <;> exact h) HS1.out [5] _ _ (by kernel_rfl) ?_
 refine pS (dn v oq D.length cq) rfl rfl ?_
 refine zE ?_
 obtain ⟨r0, r1⟩ := HG1.out.c2 1 (w.heap.size + 1) rfl rfl rfl rfl
 obtain ⟨s0, s1⟩ := HG1.out.z2 1 (w.heap.size + 1) rfl rfl
 refine oR 6 rfl rfl fun K hK => ?_
 go_simp
 have HB := zA ((HG1.out.2.2.setCell (p := ⟨w.heap.size + 1, 0, none⟩) (by simp) (.int .i64 v)).setCell (p := ⟨w.heap.size + 1, 1, none⟩) (by simp) (.slice oq D.length cq))
 have HX2 := zA ((HX.out.set HF.out (p := ⟨w.heap.size + 1, 0, none⟩) (by simp) (.int .i64 v)).set HF.out (p := ⟨w.heap.size + 1, 1, none⟩) (by simp) (.slice oq D.length cq))
 have y0 : ((w1.setCell ⟨w.heap.size + 1, 0, none⟩ (.int .i64 v)).setCell ⟨w.heap.size + 1, 1, none⟩ (.slice oq D.length cq)).cell? ⟨w.heap.size + 1, 0, none⟩ = some (.int .i64 v) := by simp [go_sem, r0]
 have y1 : ((w1.setCell ⟨w.heap.size + 1, 0, none⟩ (.int .i64 v)).setCell ⟨w.heap.size + 1, 1, none⟩ (.slice oq D.length cq)).cell? ⟨w.heap.size + 1, 1, none⟩ = some (.slice oq D.length cq) := by simp [go_sem, r1]
 refine hK _ _ ((HS1.out.set ⟨w.heap.size + 1, 0, none⟩ (by simp) (.int .i64 v)).set ⟨w.heap.size + 1, 1, none⟩ (by simp) (.slice oq D.length cq)) ?_
 clear hK K r0 r1 s0 s1 HG1 HS1 HX
 generalize (w1.setCell ⟨w.heap.size + 1, 0, none⟩ (.int .i64 v)).setCell ⟨w.heap.size + 1, 1, none⟩ (.slice oq D.length cq) = w2 at *
 refine wpAnyH_done (by kernel_rfl) ?_ _
 go_wp2_with fail
 refine bodyPost_ret (v := dn v oq D.length cq) (by simp [results, Tryz.results74, go_sem, y0, y1]) rfl ⟨⟨oq, cq, rfl, HX2.out, HF.out.mono (by omega)⟩, HB.out⟩
theorem jR (x : GT) (L : List GT) : yF (x :: L) = x.cells ++ yF L := by simp [yF]
theorem qU : ∀ (L : List GT) (i : Nat) (g : GT), L[i]? = some g → ∀ j, j < 8 → (yF L)[i * 8 + j]? = g.cells[j]?
 | [], i, g, h, j, _ => by simp at h
 | x :: L, 0, g, h, j, hj => by
  simp at h
  subst h
  rw [jR, Nat.zero_mul, Nat.zero_add, List.getElem?_append_left (by simpa [GT.cells] using hj)]
 | x :: L, i + 1, g, h, j, hj => by
  have h8 : x.cells.length = 8 := rfl
  rw [jR, List.getElem?_append_right (by omega), h8, show (i + 1) * 8 + j - 8 = i * 8 + j by omega]
  exact qU L i g (by simpa using h) j hj
theorem gates_cells {w : World} {A : Addr} {L : List GT} (h : xA w (some A) L) : ∀ j u, (yF L)[j]? = some u → w.cell? (A.add j) = some u := by
 intro j u hu
 have hlt : j < L.length * 8 := by
  have := (List.getElem?_eq_some_iff.1 hu).1
  rwa [cellsG_len] at this
 have hi : j / 8 < L.length := by omega
 obtain ⟨g, hg⟩ : ∃ g, L[j / 8]? = some g := ⟨L[j / 8], by simp [hi]⟩
 obtain ⟨b, hb, h8, -, -⟩ := h (j / 8) g hg
 cases hb
 have hj := qU L (j / 8) g hg (j % 8) (by omega)
 rw [show j / 8 * 8 + j % 8 = j by omega, hu] at hj
 have ha : A.add j = if j % 8 = 0 then A.add (j / 8 * 8) else ⟨(A.add (j / 8 * 8)).block, (A.add (j / 8 * 8)).off + j % 8, none⟩ := by
  by_cases h1 : j % 8 = 0
  ·rw [if_pos h1]
   congr 1
   omega
  ·rw [if_neg h1]
   have hj0 : j ≠ 0 := by omega
   by_cases h2 : j / 8 * 8 = 0
   ·have hjj : j % 8 = j := by omega
    simp [Addr.add, h2, hj0, hjj]
   ·have hjj : j / 8 * 8 + j % 8 = j := by omega
    simp [Addr.add, h2, hj0, Nat.add_assoc, hjj]
 rw [ha]
 have hm : j % 8 < 8 := by omega
 obtain ⟨c0, c1, c2, c3, c4, c5, c6, c7⟩ := h8
 generalize j % 8 = m at *
 match m, hm with
 | 0, _ => simp [GT.cells] at hj; subst hj; simpa using c0
 | 1, _ => simp [GT.cells] at hj; subst hj; simpa using c1
 | 2, _ => simp [GT.cells] at hj; subst hj; simpa using c2
 | 3, _ => simp [GT.cells] at hj; subst hj; simpa using c3
 | 4, _ => simp [GT.cells] at hj; subst hj; simpa using c4
 | 5, _ => simp [GT.cells] at hj; subst hj; simpa using c5
 | 6, _ => simp [GT.cells] at hj; subst hj; simpa using c6
 | 7, _ => simp [GT.cells] at hj; subst hj; simpa using c7
theorem cloneG_any (L : List GT) (A : Addr) (cap : Nat) (w : World) (hL : xA w (some A) L) (hlen : L.length ≤ 72) :
  Calls Tryz.prog 72 #[.slice (some A) L.length cap] w fun e w' => (∃ g c, e = .returned (.slice (some ⟨g, 0, none⟩) L.length c) ∧ w.heap.size ≤ g ∧ L.length ≤ c ∧ w'.ownsRow w.heap.size 58 8 (.slice (some ⟨g, 0, none⟩) L.length c) L.length (yF L)) ∧ Below w.heap.size w w' := by
 obtain ⟨i0, hi, hz0, hz1, hz2⟩ := info_parts infoGt
 have q : ∀ (w : World) (a : Option Addr) (n c n' c' : Nat), (binOp .eql 29 (.slice a n c) (.slice none n' c')).run Tryz.prog w = .ok (.bool a.isNone) w := fun w a n c n' c' => Lib.run_eql_slice_nil w _ _ a n c n' c' Tryz.underlying29
 have HN := zA (gates_cells (hL.below ((Below.refl w.heap.size w).alloc (Nat.le_refl _) (.cells #[] 58))))
 have HO := zA (World.ownsRow_made (base := w.heap.size) (e := 58) (size := 8) w #[] 0 (Nat.le_refl _) (by decide) rfl)
 clear hL
 go_enter Tryz.func72, Tryz.ntmps72
 go_wp2_with (at_builtin; refine wpList_append_own _ rfl _ _ 29 rfl w.heap.size 58 i0 _ 8 96 Tryz.underlying29 hi hz0 hz1 hz2 rfl (by decide) _ 0 _ rfl HO.out A L.length cap (yF L) rfl (cellsG_len L) HN.out (oneG L) (by unfold maxLen; omega) (by omega) (by simp) ?_; intro v1 w1 hown1 hgrow1 hnil)
 go_ret
 refine ⟨?_, ((Below.refl w.heap.size w).alloc (Nat.le_refl _) _).grown hgrow1 (by simp) (fun k hk => (HO.out.lt k hk).1)⟩
 have hn : 0 + L.length = L.length := by omega
 rw [hn] at hown1
 rcases hown1.2 with ⟨h0, -⟩ | ⟨g, c, cur, rfl, hg, -, hc, -⟩
 ·have := (hnil.1 h0).1
  simp [Act.eval] at this
 ·exact ⟨g, c, rfl, hg, hc, hown1⟩
structure GP where
 i : Int
 z : Int
 s : Int
 A : List TP
 v : Int
 D : List Int
 l : Int
 u : Int
def GT.p (g : GT) : GP := ⟨g.i, g.z, g.s, g.A, g.v, g.D, g.l, g.u⟩
theorem yT : ∀ (L : List GT) (q : Nat) (g g' : GT) (j : Nat) (v : Value), L[q]? = some g → j < 8 → g.cells.set j v = g'.cells → (yF L).set (q * 8 + j) v = yF (L.set q g')
 | [], q, g, g', j, v, h, _, _ => by simp at h
 | x :: L, 0, g, g', j, v, h, hj, hc => by
  simp at h
  subst h
  rw [jR, Nat.zero_mul, Nat.zero_add, List.set_append_left _ _ (by simpa [GT.cells] using hj), hc, List.set_cons_zero, jR]
 | x :: L, q + 1, g, g', j, v, h, hj, hc => by
  have h8 : x.cells.length = 8 := rfl
  rw [jR, List.set_append_right _ _ (by omega), h8, show (q + 1) * 8 + j - 8 = q * 8 + j by omega, yT L q g g' j v (by simpa using h) hj hc, List.set_cons_succ, jR]
def GLs (w : World) (B : Nat) (G : List GT) : Prop := ∀ g ∈ G, (zR w (.slice g.oa g.A.length g.ca) g.A ∧ zK B (.slice g.oa g.A.length g.ca)) ∧ zP w (.slice g.od g.D.length g.cd) g.D ∧ zK B (.slice g.od g.D.length g.cd)
theorem GLs.below {w w' : World} {B : Nat} {G : List GT} (h : GLs w B G) (hb : Below w.heap.size w w') : GLs w' B G :=
 fun g hg => have ⟨⟨a1, a2⟩, b1, b2⟩ := h g hg; ⟨⟨a1.below hb, a2⟩, b1.below hb, b2⟩
theorem GLs.set {w : World} {B : Nat} {G : List GT} (h : GLs w B G) {p : Addr} (hp : p.block < B) (u : Value) : GLs (w.setCell p u) B G :=
 fun g hg => have ⟨⟨a1, a2⟩, b1, b2⟩ := h g hg; ⟨⟨a1.set a2 hp u, a2⟩, b1.set b2 hp u, b2⟩
theorem GLs.nil (w : World) (B : Nat) : GLs w B [] := fun g hg => by simp at hg
theorem GLs.snoc {w : World} {B : Nat} {G : List GT} (h : GLs w B G) {g : GT} (h1 : zR w (.slice g.oa g.A.length g.ca) g.A) (h2 : zK B (.slice g.oa g.A.length g.ca)) (h3 : zP w (.slice g.od g.D.length g.cd) g.D) (h4 : zK B (.slice g.od g.D.length g.cd)) : GLs w B (G ++ [g]) := by
 intro x hx
 rcases List.mem_append.1 hx with hx | hx
 ·exact h x hx
 ·obtain rfl : x = g := by simpa using hx
  exact ⟨⟨h1, h2⟩, h3, h4⟩
theorem qK.set {w : World} {B : Nat} {v : Value} {L : List VW} (h : qK w v L) (hf : zK B v) {p : Addr} (hp : p.block < B) (u : Value) : qK (w.setCell p u) v L := by
 obtain ⟨o, c, rfl, h1, h2⟩ := h
 refine ⟨o, c, rfl, fun i x hi => ?_, h2⟩
 obtain ⟨b, rfl, a0, a1, a2⟩ := h1 i x hi
 have hB : B ≤ b.block := hf _ rfl
 exact ⟨b, rfl, at_set (by omega) a0, xF (by omega) a1, xF (by omega) a2⟩
theorem qK.eqs {w : World} {o : Option Addr} {n c : Nat} {L : List VW} (h : qK w (.slice o n c) L) : n = L.length ∧ zZ w o L ∧ L.length ≤ c ∧ (o = none → c = 0) := by
 obtain ⟨o', c', e, h1, h2, h3⟩ := h
 simp only [Value.slice.injEq] at e
 obtain ⟨rfl, rfl, rfl⟩ := e
 exact ⟨rfl, h1, h2, h3⟩
theorem ownsRow_base {w : World} {base B : Nat} {e : TypeId} {size : Nat} {v : Value} {n : Nat} {xs : List Value} (h : w.ownsRow base e size v n xs) (hB : B ≤ base) : w.ownsRow B e size v n xs := by
 refine ⟨h.1, ?_⟩
 rcases h.2 with h0 | ⟨g, cap, cur, h1, h2, h3⟩
 ·exact .inl h0
 ·exact .inr ⟨g, cap, cur, h1, by omega, h3⟩
theorem qQ {w : World} {base : Nat} {e : TypeId} {size : Nat} {g n c : Nat} {xs : List Value} (h : w.ownsRow base e size (.slice (some ⟨g, 0, none⟩) n c) n xs) : base ≤ g ∧ g < w.heap.size := by
 rcases h.2 with ⟨h0, -⟩ | ⟨g', cap, cur, h1, h2, h3, -⟩
 ·simp at h0
 ·simp only [Value.slice.injEq, Option.some.injEq, Addr.mk.injEq, and_true, true_and] at h1
  obtain ⟨rfl, rfl⟩ := h1
  exact ⟨h2, (Array.getElem?_eq_some_iff.1 h3).1⟩
theorem qX (g k : Nat) : (⟨g, 0, none⟩ : Addr).add k = ⟨g, k, none⟩ := by
 by_cases h : k = 0
 ·subst h; simp [Addr.add]
 ·simp [Addr.add, h]
structure StF (w : World) (base Q cq : Nat) (T : List TK) (P : List TP) (V D : List Int) (G : List GT) (W : List VW) (v1 v2 v3 v4 v5 : Value) : Prop where
 row : w.ownsRow base 58 8 (.slice (some ⟨Q, 0, none⟩) G.length cq) G.length (yF G)
 gls : GLs w (Q + 1) G
 tik : yJ w v1 T ∧ zK (Q + 1) v1
 tap : zR w v2 P ∧ zK (Q + 1) v2
 ver : zP w v3 V ∧ zK (Q + 1) v3
 den : zP w v4 D ∧ zK (Q + 1) v4
 vws : qK w v5 W ∧ zK (Q + 1) v5
theorem freshStation_any (T : List TK) (P : List TP) (V : List Int) (dv : Int) (D : List Int) (G : List GT) (W : List VW) (o1 o2 o3 od : Option Addr) (A : Addr) (ov : Option Addr) (c1 c2 c3 cd cg cv : Nat) (w : World)
  (hT : zV w o1 T) (hP : zI w o2 P) (hV : zH w o3 V) (hD : zH w od D) (hG : xA w (some A) G) (hW : zZ w ov W) (hlT : T.length ≤ 60) (hlP : P.length ≤ 60) (hlV : V.length ≤ 60) (hlD : D.length ≤ 60) (hlW : W.length ≤ 60) (hlG : G.length ≤ 60) (hgl : ∀ g ∈ G, g.A.length ≤ 60 ∧ g.D.length ≤ 60) :
  Calls Tryz.prog 30 #[stV o1 o2 o3 T.length c1 P.length c2 V.length c3 dv od D.length cd (some A) G.length cg ov W.length cv] w fun e w' =>
   (∃ x1 y1 x2 y2 x3 y3 x4 y4 Q cq x5 y5 G', e = .returned (stV x1 x2 x3 T.length y1 P.length y2 V.length y3 dv x4 D.length y4 (some ⟨Q, 0, none⟩) G.length cq x5 W.length y5) ∧ G'.map GT.p = G.map GT.p ∧
    StF w' w.heap.size Q cq T P V D G' W (.slice x1 T.length y1) (.slice x2 P.length y2) (.slice x3 V.length y3) (.slice x4 D.length y4) (.slice x5 W.length y5)) ∧ Below w.heap.size w w' := by
 have HB := zA (((zL.nil w).more (.cells #[.slice o1 T.length c1, .slice o2 P.length c2, .slice o3 V.length c3, .int .i64 dv, .slice od D.length cd, .slice (some A) G.length cg, .slice ov W.length cv] 32) (by simp)).more (.cells #[.slice none 0 0, .slice none 0 0, .slice none 0 0, .int .i64 0, .slice none 0 0, .slice none 0 0, .slice none 0 0] 32) (by simp))
 have HT := zA hT
 have HP := zA hP
 have HV := zA hV
 have HD := zA hD
 have HG := zA hG
 have HW := zA hW
 have HGL := zA hgl
 clear hT hP hV hD hG hW hgl
 go_enter Tryz.func30, Tryz.ntmps30
 go_wp2_with fail
 refine (cloneG_any G A cg _ (HG.out.below HB.out.2.2) (by omega)).mono ?_
 rintro e w1 ⟨⟨Q, cq, rfl, hQ, hcq, hrow⟩, hb⟩
 have HB1 := zA (HB.out.on hb)
 have hQ2 : w.heap.size + 2 ≤ Q := by simpa using hQ
 have HR : Hid (w1.ownsRow (w.heap.size + 2) 58 8 (.slice (some ⟨Q, 0, none⟩) G.length cq) G.length (yF G)) := zA (ownsRow_base hrow (by simp))
 clear hb HB hQ hrow
 go_wp2_with fail
 go_loopw [11] (fun j wr => ∃ (q : Nat) (M : List GT), q ≤ G.length ∧ j = .int .i64 q ∧ Hid (M.length = G.length ∧ M.map GT.p = G.map GT.p ∧ ∀ i, q ≤ i → M[i]? = G[i]?) ∧ Hid (wr.ownsRow (w.heap.size + 2) 58 8 (.slice (some ⟨Q, 0, none⟩) G.length cq) G.length (yF M)) ∧ Hid (GLs wr (Q + 1) (M.take q)) ∧ Hid (zL w wr [.cells #[.slice o1 T.length c1, .slice o2 P.length c2, .slice o3 V.length c3, .int .i64 dv, .slice od D.length cd, .slice (some A) G.length cg, .slice ov W.length cv] 32, .cells #[.slice none 0 0, .slice none 0 0, .slice none 0 0, .int .i64 0, .slice none 0 0, .slice none 0 0, .slice none 0 0] 32])) (fun j _ => G.length - (intOf j).toNat)
 case atStart => exact ⟨0, G, Nat.zero_le _, rfl, zA ⟨rfl, rfl, fun i _ => rfl⟩, HR, zA (by rw [List.take_zero]; exact GLs.nil _ _), HB1⟩
 case round =>
  clear HR HB1
  obtain ⟨q, M, hq, rfl, HM, HR, HS, HB⟩ := hrel
  by_cases hgo : q < G.length
  ·obtain ⟨g, hg⟩ : ∃ g, G[q]? = some g := ⟨G[q], by simp [hgo]⟩
   have hMq : M[q]? = some g := by rw [HM.out.2.2 q (Nat.le_refl _)]; exact hg
   obtain ⟨hlA, hlD'⟩ := HGL.out g (List.mem_of_getElem? hg)
   obtain ⟨A', hA', h8, hTa, hIn⟩ := (HG.out.below HB.out.2.2) q g hg
   have HTI := zA (And.intro hTa hIn)
   have HMq := zA hMq
   have HGq := zA hg
   have hadd := qX Q (q * 8)
   have hblk := qQ HR.out
   have hQr := hblk.2
   have cc : ∀ j, j < 8 → wr.cell? ⟨Q, q * 8 + j, none⟩ = g.cells[j]? := fun j hj => by
    rw [HR.out.cellAt (q * 8 + j) (by omega)]
    exact qU M q g hMq j hj
   have c0 : wr.cell? ⟨Q, q * 8, none⟩ = some (.int .i64 g.i) := cc 0 (by omega)
   have c1' : wr.cell? ⟨Q, q * 8 + 1, none⟩ = some (.int .i64 g.z) := cc 1 (by omega)
   have c2' : wr.cell? ⟨Q, q * 8 + 2, none⟩ = some (.int .i64 g.s) := cc 2 (by omega)
   have c3' : wr.cell? ⟨Q, q * 8 + 3, none⟩ = some (.slice g.oa g.A.length g.ca) := cc 3 (by omega)
   have c4' : wr.cell? ⟨Q, q * 8 + 4, none⟩ = some (.int .i64 g.v) := cc 4 (by omega)
   have c5' : wr.cell? ⟨Q, q * 8 + 5, none⟩ = some (.slice g.od g.D.length g.cd) := cc 5 (by omega)
   have c6' : wr.cell? ⟨Q, q * 8 + 6, none⟩ = some (.int .i64 g.l) := cc 6 (by omega)
   have c7' : wr.cell? ⟨Q, q * 8 + 7, none⟩ = some (.int .i64 g.u) := cc 7 (by omega)
   have HX := zA ((zL.nil wr).more (.cells #[.int .i64 g.i, .int .i64 g.z, .int .i64 g.s, .slice g.oa g.A.length g.ca, .int .i64 g.v, .slice g.od g.D.length g.cd, .int .i64 g.l, .int .i64 g.u] 58) (by simp))
   clear hg hMq hTa hIn h8 hA' cc
   go_wp2_with fail
   refine (cloneP_any g.A g.oa g.ca _ (HTI.out.1.below HX.out.2.2).ats hlA).mono ?_
   rintro e w2 ⟨⟨v1, rfl, hv, hf⟩, hb⟩
   obtain ⟨oa, ca, rfl, hv'⟩ := hv
   have HX2 := zA (HX.out.on hb)
   have HB2 := zA (HB.out.on HX2.out.2.2)
   have HR2 := zA (zF HR.out HX2.out.2.2)
   have HS2 := zA (HS.out.below HX2.out.2.2)
   have HA2 : Hid (zR w2 (.slice oa g.A.length ca) g.A ∧ zK (Q + 1) (.slice oa g.A.length ca)) := zA ⟨⟨oa, ca, rfl, hv'⟩, hf.mono (by simp; omega)⟩
   have hz2 := hb.size
   clear hb hf hv' HX HB HR HS c0 c1' c2' c3' c4' c5' c6' c7'
   have hQ2' : Q < w2.heap.size := by simp at hz2; omega
   have c3' : w2.cell? ⟨Q, q * 8 + 3, none⟩ = some (.slice g.oa g.A.length g.ca) := by
    rw [HR2.out.cellAt (q * 8 + 3) (by omega)]
    exact qU M q g HMq.out 3 (by omega)
   have z3 := HR2.out.frozenAt (q * 8 + 3)
   have b4 := HX2.out.cell 0 4 wr.heap.size _ _ _ rfl rfl rfl
   have b5 := HX2.out.cell 0 5 wr.heap.size _ _ _ rfl rfl rfl
   go_wp2_with fail
   clear b4 b5
   have HR3 : Hid ((w2.setCell ⟨Q, q * 8 + 3, none⟩ (.slice oa g.A.length ca)).ownsRow (w.heap.size + 2) 58 8 (.slice (some ⟨Q, 0, none⟩) G.length cq) G.length (yF (M.set q ⟨g.i, g.z, g.s, oa, g.A, ca, g.v, g.od, g.D, g.cd, g.l, g.u⟩))) := by
    have h := (HR2.out.stored (q * 8 + 3) (.slice oa g.A.length ca)).1
    rw [yT M q g ⟨g.i, g.z, g.s, oa, g.A, ca, g.v, g.od, g.D, g.cd, g.l, g.u⟩ 3 _ HMq.out (by omega) rfl] at h
    exact zA h
   have HXo : Hid (w2.heap[wr.heap.size]? = some (.cells #[.int .i64 g.i, .int .i64 g.z, .int .i64 g.s, .slice g.oa g.A.length g.ca, .int .i64 g.v, .slice g.od g.D.length g.cd, .int .i64 g.l, .int .i64 g.u] 58)) := zA (HX2.out.1 0 _ rfl)
   have HX3 := zA ((heap_setCell_other w2 ⟨Q, q * 8 + 3, none⟩ wr.heap.size (.slice oa g.A.length ca) (by simp; omega)).trans HXo.out)
   have HB3 := zA (HB2.out.set ⟨Q, q * 8 + 3, none⟩ (by simp; omega) (.slice oa g.A.length ca))
   have HS3 := zA (HS2.out.set (p := ⟨Q, q * 8 + 3, none⟩) (by simp) (.slice oa g.A.length ca))
   have HA3 := zA (HA2.out.1.set HA2.out.2 (p := ⟨Q, q * 8 + 3, none⟩) (by simp) (.slice oa g.A.length ca))
   have hF2 := zA HA2.out.2
   clear HXo HX2 HB2 HS2 HA2 HR2 c3' z3 HTI
   have hz3 : Q < (w2.setCell ⟨Q, q * 8 + 3, none⟩ (.slice oa g.A.length ca)).heap.size := by simpa using hQ2'
   generalize w2.setCell ⟨Q, q * 8 + 3, none⟩ (.slice oa g.A.length ca) = w3 at *
   obtain ⟨A', hA', h8, hTa, hIn⟩ := (HG.out.below HB3.out.2.2) q g HGq.out
   refine (freshList_any g.v g.D g.od g.cd _ hIn.ats hlD').mono ?_
   rintro e w4 ⟨⟨od', cd', rfl, hi, hf⟩, hb⟩
   have HB4 := zA (HB3.out.on hb)
   have HR4 := zA (zF HR3.out hb)
   have HS4 := zA (HS3.out.below hb)
   have HA4 := zA (HA3.out.below hb)
   have HI4 := zA (And.intro hi (hf.mono (show Q + 1 ≤ w3.heap.size by omega)))
   have hz4 := hb.size
   clear hA' h8 hTa hIn hi hf hb HX3 HB3 HR3 HS3 HA3
   have HM1 : Hid ((M.set q ⟨g.i, g.z, g.s, oa, g.A, ca, g.v, g.od, g.D, g.cd, g.l, g.u⟩)[q]? = some ⟨g.i, g.z, g.s, oa, g.A, ca, g.v, g.od, g.D, g.cd, g.l, g.u⟩) := zA (by rw [List.getElem?_set_self (by have := HM.out.1; omega)])
   have c4' : w4.cell? ⟨Q, q * 8 + 4, none⟩ = some (.int .i64 g.v) := by
    rw [HR4.out.cellAt (q * 8 + 4) (by omega)]
    exact qU _ q _ HM1.out 4 (by omega)
   have c5' : w4.cell? ⟨Q, q * 8 + 5, none⟩ = some (.slice g.od g.D.length g.cd) := by
    rw [HR4.out.cellAt (q * 8 + 5) (by omega)]
    exact qU _ q _ HM1.out 5 (by omega)
   have z4 := HR4.out.frozenAt (q * 8 + 4)
   have z5 := HR4.out.frozenAt (q * 8 + 5)
   go_wp2_with fail
   have hl1 : (M.set q ⟨g.i, g.z, g.s, oa, g.A, ca, g.v, od', g.D, cd', g.l, g.u⟩).length = M.length := List.length_set
   have HM' : Hid ((M.set q ⟨g.i, g.z, g.s, oa, g.A, ca, g.v, od', g.D, cd', g.l, g.u⟩).length = G.length ∧ (M.set q ⟨g.i, g.z, g.s, oa, g.A, ca, g.v, od', g.D, cd', g.l, g.u⟩).map GT.p = G.map GT.p ∧ ∀ i, q + 1 ≤ i → (M.set q ⟨g.i, g.z, g.s, oa, g.A, ca, g.v, od', g.D, cd', g.l, g.u⟩)[i]? = G[i]?) := by
    obtain ⟨m1, m2, m3⟩ := HM.out
    refine zA ⟨hl1.trans m1, ?_, fun i hi => ?_⟩
    ·rw [List.map_set, ← m2]
     apply List.ext_getElem?
     intro i
     rw [List.getElem?_set]
     split
     ·next h =>
      subst h
      rw [if_pos (by simp; omega), List.getElem?_map, HMq.out]
      rfl
     ·rfl
    ·rw [List.getElem?_set_ne (by omega)]
     exact m3 i (by omega)
   have HR' : Hid (((w4.setCell ⟨Q, q * 8 + 4, none⟩ (.int .i64 g.v)).setCell ⟨Q, q * 8 + 4 + 1, none⟩ (.slice od' g.D.length cd')).ownsRow (w.heap.size + 2) 58 8 (.slice (some ⟨Q, 0, none⟩) G.length cq) G.length (yF (M.set q ⟨g.i, g.z, g.s, oa, g.A, ca, g.v, od', g.D, cd', g.l, g.u⟩))) := by
    have h := ((HR4.out.stored (q * 8 + 4) (.int .i64 g.v)).1.stored (q * 8 + 4 + 1) (.slice od' g.D.length cd')).1
    rw [yT _ q _ ⟨g.i, g.z, g.s, oa, g.A, ca, g.v, g.od, g.D, g.cd, g.l, g.u⟩ 4 _ HM1.out (by omega) rfl] at h
    have hM2 : ((M.set q ⟨g.i, g.z, g.s, oa, g.A, ca, g.v, g.od, g.D, g.cd, g.l, g.u⟩).set q ⟨g.i, g.z, g.s, oa, g.A, ca, g.v, g.od, g.D, g.cd, g.l, g.u⟩)[q]? = some ⟨g.i, g.z, g.s, oa, g.A, ca, g.v, g.od, g.D, g.cd, g.l, g.u⟩ := by rw [List.getElem?_set_self (by have := HM.out.1; simp; omega)]
    rw [Nat.add_assoc, show 4 + 1 = 5 from rfl, yT _ q _ ⟨g.i, g.z, g.s, oa, g.A, ca, g.v, od', g.D, cd', g.l, g.u⟩ 5 _ hM2 (by omega) rfl, List.set_set, List.set_set] at h
    exact zA h
   have HS' : Hid (GLs ((w4.setCell ⟨Q, q * 8 + 4, none⟩ (.int .i64 g.v)).setCell ⟨Q, q * 8 + 4 + 1, none⟩ (.slice od' g.D.length cd')) (Q + 1) ((M.set q ⟨g.i, g.z, g.s, oa, g.A, ca, g.v, od', g.D, cd', g.l, g.u⟩).take (q + 1))) := by
    have ht : (M.set q ⟨g.i, g.z, g.s, oa, g.A, ca, g.v, od', g.D, cd', g.l, g.u⟩).take (q + 1) = M.take q ++ [⟨g.i, g.z, g.s, oa, g.A, ca, g.v, od', g.D, cd', g.l, g.u⟩] := by
     rw [List.take_add_one, List.getElem?_set_self (by have := HM.out.1; omega), List.take_set_of_le (Nat.le_refl _)]
     rfl
    rw [ht]
    exact zA (((HS4.out.set (p := ⟨Q, q * 8 + 4, none⟩) (by simp) (.int .i64 g.v)).set (p := ⟨Q, q * 8 + 4 + 1, none⟩) (by simp) (.slice od' g.D.length cd')).snoc
     ((HA4.out.set hF2.out (p := ⟨Q, q * 8 + 4, none⟩) (by simp) (.int .i64 g.v)).set hF2.out (p := ⟨Q, q * 8 + 4 + 1, none⟩) (by simp) (.slice od' g.D.length cd')) hF2.out
     ((HI4.out.1.set HI4.out.2 (p := ⟨Q, q * 8 + 4, none⟩) (by simp) (.int .i64 g.v)).set HI4.out.2 (p := ⟨Q, q * 8 + 4 + 1, none⟩) (by simp) (.slice od' g.D.length cd')) HI4.out.2)
   have HB' := zA ((HB4.out.set ⟨Q, q * 8 + 4, none⟩ (by simp; omega) (.int .i64 g.v)).set ⟨Q, q * 8 + 4 + 1, none⟩ (by simp; omega) (.slice od' g.D.length cd'))
   exact ⟨⟨q + 1, _, by omega, by simp, HM', HR', HS', HB'⟩, by simp [intOf]; omega⟩
  ·have HS' : Hid (GLs wr (Q + 1) M) := by
    have h := HS.out
    rw [List.take_of_length_le (by have := HM.out.1; omega)] at h
    exact zA h
   have HMp := zA HM.out.2.1
   have HRm : Hid (wr.ownsRow (w.heap.size + 2) 58 8 (.slice (some ⟨Q, 0, none⟩) M.length cq) M.length (yF M)) := by
    have h := HR.out
    rw [← HM.out.1] at h
    exact zA h
   have HMl := zA HM.out.1
   have hQw := (qQ HR.out).2
   clear HS HM HR
   go_wp2_with fail
   refine zJ (fun w' => zL w w' [.cells #[.slice o1 T.length c1, .slice o2 P.length c2, .slice o3 V.length c3, .int .i64 dv, .slice od D.length cd, .slice (some A) G.length cg, .slice ov W.length cv] 32]) [0, 1, 2, 4, 5, 6, 8, 9, 10, 13, 14, 16, 17, 18] 8 (by rfl) (by kernel_rfl) (by kernel_rfl) (by kernel_rfl) (fun c d v a w h => by cases d <;> exact h) ?_ ?_
   ·exact zL.sub (more := [.cells #[.slice none 0 0, .slice none 0 0, .slice none 0 0, .int .i64 0, .slice none 0 0, .slice none 0 0, .slice none 0 0] 32]) (HB.out.on (Below.refl _ _).drew)
   refine zB (.pointer (some ⟨w.heap.size, 0, none⟩)) rfl rfl (fun w' hS => ?_) ?_
   ·go_simp
   refine zB (.pointer (some ⟨w.heap.size, 0, none⟩)) rfl rfl (fun w' hS => ?_) ?_
   ·go_simp
   refine zB (.slice o1 T.length c1) rfl rfl (fun w' hS => ?_) ?_
   ·have x0 := hS.cell 0 0 w.heap.size _ _ _ rfl rfl rfl
    go_simp
   refine zB (.pointer (some ⟨w.heap.size, 0, none⟩)) rfl rfl (fun w' hS => ?_) ?_
   ·go_simp
   refine zB (.pointer (some ⟨w.heap.size, 1, none⟩)) rfl rfl (fun w' hS => ?_) ?_
   ·go_simp
   refine zB (.slice o2 P.length c2) rfl rfl (fun w' hS => ?_) ?_
   ·have x1 := hS.cell 0 1 w.heap.size _ _ _ rfl rfl rfl
    go_simp
   refine zB (.pointer (some ⟨w.heap.size, 0, none⟩)) rfl rfl (fun w' hS => ?_) ?_
   ·go_simp
   refine zB (.pointer (some ⟨w.heap.size, 2, none⟩)) rfl rfl (fun w' hS => ?_) ?_
   ·go_simp
   refine zB (.slice o3 V.length c3) rfl rfl (fun w' hS => ?_) ?_
   ·have x2 := hS.cell 0 2 w.heap.size _ _ _ rfl rfl rfl
    go_simp
   refine zB (.pointer (some ⟨w.heap.size, 3, none⟩)) rfl rfl (fun w' hS => ?_) ?_
   ·go_simp
   refine zB (dn dv od D.length cd) rfl rfl (fun w' hS => ?_) ?_
   ·have x3 := hS.cell 0 3 w.heap.size _ _ _ rfl rfl rfl
    have x4 := hS.cell 0 4 w.heap.size _ _ _ rfl rfl rfl
    go_simp
   refine zB (.slice (some ⟨Q, 0, none⟩) G.length cq) rfl rfl (fun w' hS => ?_) ?_
   ·go_simp
   refine zB (.pointer (some ⟨w.heap.size, 6, none⟩)) rfl rfl (fun w' hS => ?_) ?_
   ·go_simp
   refine zB (.slice ov W.length cv) rfl rfl (fun w' hS => ?_) ?_
   ·have x6 := hS.cell 0 6 w.heap.size _ _ _ rfl rfl rfl
    go_simp
   refine zE ?_
   have HBd := zA (HB.out.on (Below.refl _ _).drew)
   have HRd := zA (zF HRm.out (Below.refl _ _).drew)
   have HSd := zA (HS'.out.below (Below.refl _ _).drew)
   have hQd : Q < wr.drew.heap.size := hQw
   clear HB HRm HS' hQw
   generalize (World.drew _) = w0 at *
   refine oR 3 rfl rfl fun K hK => ?_
   go_simp
   refine (cloneK_any T o1 c1 w0 (HT.out.below HBd.out.2.2) (by omega)).mono ?_
   rintro e w11 ⟨⟨v, rfl, hv, hf⟩, hb⟩
   obtain ⟨x1, y1, rfl, hv'⟩ := hv
   have HL1 := zA (And.intro (show yJ w11 (.slice x1 T.length y1) T from ⟨_, _, rfl, hv'⟩) (hf.mono (show Q + 1 ≤ w0.heap.size by omega)))
   clear hv' hf
   have HB1 := zA (HBd.out.on hb)
   have HR1 := zA (zF HRd.out hb)
   have HS1 := zA (HSd.out.below hb)
   have hQ1 : Q < w11.heap.size := Nat.lt_of_lt_of_le hQd hb.size
   refine hK _ _ (zL.sub (os := [.cells #[.slice o1 T.length c1, .slice o2 P.length c2, .slice o3 V.length c3, .int .i64 dv, .slice od D.length cd, .slice (some A) G.length cg, .slice ov W.length cv] 32]) (more := [.cells #[.slice none 0 0, .slice none 0 0, .slice none 0 0, .int .i64 0, .slice none 0 0, .slice none 0 0, .slice none 0 0] 32]) HB1.out) ?_
   clear hK K hb HBd HRd HSd hQd 
   refine oR 7 rfl rfl fun K hK => ?_
   go_simp
   refine (cloneP_any P o2 c2 w11 (HP.out.below HB1.out.2.2) (by omega)).mono ?_
   rintro e w12 ⟨⟨v, rfl, hv, hf⟩, hb⟩
   obtain ⟨x2, y2, rfl, hv'⟩ := hv
   have HL2 := zA (And.intro (show zR w12 (.slice x2 P.length y2) P from ⟨_, _, rfl, hv'⟩) (hf.mono (show Q + 1 ≤ w11.heap.size by omega)))
   clear hv' hf
   have HB2 := zA (HB1.out.on hb)
   have HR2 := zA (zF HR1.out hb)
   have HS2 := zA (HS1.out.below hb)
   have hQ2 : Q < w12.heap.size := Nat.lt_of_lt_of_le hQ1 hb.size
   have HL1w12 := zA (And.intro (HL1.out.1.below hb) HL1.out.2)
   refine hK _ _ (zL.sub (os := [.cells #[.slice o1 T.length c1, .slice o2 P.length c2, .slice o3 V.length c3, .int .i64 dv, .slice od D.length cd, .slice (some A) G.length cg, .slice ov W.length cv] 32]) (more := [.cells #[.slice none 0 0, .slice none 0 0, .slice none 0 0, .int .i64 0, .slice none 0 0, .slice none 0 0, .slice none 0 0] 32]) HB2.out) ?_
   clear hK K hb HB1 HR1 HS1 hQ1 HL1
   refine oR 11 rfl rfl fun K hK => ?_
   go_simp
   refine (jL V o3 c3 w12 (HV.out.below HB2.out.2.2) (by omega)).mono ?_
   rintro e w13 ⟨⟨v, rfl, hv, hf⟩, hb⟩
   obtain ⟨x3, y3, rfl, hv'⟩ := hv
   have HL3 := zA (And.intro (show zP w13 (.slice x3 V.length y3) V from ⟨_, _, rfl, hv'⟩) (hf.mono (show Q + 1 ≤ w12.heap.size by omega)))
   clear hv' hf
   have HB3 := zA (HB2.out.on hb)
   have HR3 := zA (zF HR2.out hb)
   have HS3 := zA (HS2.out.below hb)
   have hQ3 : Q < w13.heap.size := Nat.lt_of_lt_of_le hQ2 hb.size
   have HL1w13 := zA (And.intro (HL1w12.out.1.below hb) HL1w12.out.2)
   have HL2w13 := zA (And.intro (HL2.out.1.below hb) HL2.out.2)
   refine hK _ _ (zL.sub (os := [.cells #[.slice o1 T.length c1, .slice o2 P.length c2, .slice o3 V.length c3, .int .i64 dv, .slice od D.length cd, .slice (some A) G.length cg, .slice ov W.length cv] 32]) (more := [.cells #[.slice none 0 0, .slice none 0 0, .slice none 0 0, .int .i64 0, .slice none 0 0, .slice none 0 0, .slice none 0 0] 32]) HB3.out) ?_
   clear hK K hb HB2 HR2 HS2 hQ2 HL1w12 HL2
   refine yB (fuel := 4) (by kernel_rfl) (fun c d v a w h => by cases d <;> exact h) (zL.sub (os := [.cells #[.slice o1 T.length c1, .slice o2 P.length c2, .slice o3 V.length c3, .int .i64 dv, .slice od D.length cd, .slice (some A) G.length cg, .slice ov W.length cv] 32]) (more := [.cells #[.slice none 0 0, .slice none 0 0, .slice none 0 0, .int .i64 0, .slice none 0 0, .slice none 0 0, .slice none 0 0] 32]) HB3.out) [12] _ _ (by kernel_rfl) ?_
   refine pS (lg x1 x2 x3 T.length y1 P.length y2 V.length y3) rfl rfl ?_
   refine zE ?_
   refine oR 15 rfl rfl fun K hK => ?_
   go_simp
   refine (freshList_any dv D od cd w13 (HD.out.below HB3.out.2.2) (by omega)).mono ?_
   rintro e w14 ⟨⟨x4, y4, rfl, hv, hf⟩, hb⟩
   have HL4 := zA (And.intro hv (hf.mono (show Q + 1 ≤ w13.heap.size by omega)))
   clear hv hf
   have HB4 := zA (HB3.out.on hb)
   have HR4 := zA (zF HR3.out hb)
   have HS4 := zA (HS3.out.below hb)
   have hQ4 : Q < w14.heap.size := Nat.lt_of_lt_of_le hQ3 hb.size
   have HL1w14 := zA (And.intro (HL1w13.out.1.below hb) HL1w13.out.2)
   have HL2w14 := zA (And.intro (HL2w13.out.1.below hb) HL2w13.out.2)
   have HL3w14 := zA (And.intro (HL3.out.1.below hb) HL3.out.2)
   refine hK _ _ (zL.sub (os := [.cells #[.slice o1 T.length c1, .slice o2 P.length c2, .slice o3 V.length c3, .int .i64 dv, .slice od D.length cd, .slice (some A) G.length cg, .slice ov W.length cv] 32]) (more := [.cells #[.slice none 0 0, .slice none 0 0, .slice none 0 0, .int .i64 0, .slice none 0 0, .slice none 0 0, .slice none 0 0] 32]) HB4.out) ?_
   clear hK K hb HB3 HR3 HS3 hQ3 HL1w13 HL2w13 HL3
   refine oR 19 rfl rfl fun K hK => ?_
   go_simp
   refine (cloneW_any W ov cv w14 (HW.out.below HB4.out.2.2) (by omega)).mono ?_
   rintro e w15 ⟨⟨v, rfl, hv, hf⟩, hb⟩
   obtain ⟨x5, y5, rfl, hv'⟩ := hv
   have HL5 := zA (And.intro (show qK w15 (.slice x5 W.length y5) W from ⟨_, _, rfl, hv'⟩) (hf.mono (show Q + 1 ≤ w14.heap.size by omega)))
   clear hv' hf
   have HB5 := zA (HB4.out.on hb)
   have HR5 := zA (zF HR4.out hb)
   have HS5 := zA (HS4.out.below hb)
   have hQ5 : Q < w15.heap.size := Nat.lt_of_lt_of_le hQ4 hb.size
   have HL1w15 := zA (And.intro (HL1w14.out.1.below hb) HL1w14.out.2)
   have HL2w15 := zA (And.intro (HL2w14.out.1.below hb) HL2w14.out.2)
   have HL3w15 := zA (And.intro (HL3w14.out.1.below hb) HL3w14.out.2)
   have HL4w15 := zA (And.intro (HL4.out.1.below hb) HL4.out.2)
   refine hK _ _ (zL.sub (os := [.cells #[.slice o1 T.length c1, .slice o2 P.length c2, .slice o3 V.length c3, .int .i64 dv, .slice od D.length cd, .slice (some A) G.length cg, .slice ov W.length cv] 32]) (more := [.cells #[.slice none 0 0, .slice none 0 0, .slice none 0 0, .int .i64 0, .slice none 0 0, .slice none 0 0, .slice none 0 0] 32]) HB5.out) ?_
   clear hK K hb HB4 HR4 HS4 hQ4 HL1w14 HL2w14 HL3w14 HL4
   refine yB (fuel := 1) (by kernel_rfl) (fun c d v a w h => by cases d <;> exact h) (zL.sub (os := [.cells #[.slice o1 T.length c1, .slice o2 P.length c2, .slice o3 V.length c3, .int .i64 dv, .slice od D.length cd, .slice (some A) G.length cg, .slice ov W.length cv] 32]) (more := [.cells #[.slice none 0 0, .slice none 0 0, .slice none 0 0, .int .i64 0, .slice none 0 0, .slice none 0 0, .slice none 0 0] 32]) HB5.out) [20] _ _ (by kernel_rfl) ?_
   refine pS (stV x1 x2 x3 T.length y1 P.length y2 V.length y3 dv x4 D.length y4 (some ⟨Q, 0, none⟩) G.length cq x5 W.length y5) rfl rfl ?_
   refine zE ?_
   obtain ⟨r0, r1, r2, r3, r4, r5, r6⟩ := HB5.out.c7 1 (w.heap.size + 1) rfl rfl rfl rfl rfl rfl rfl rfl rfl
   obtain ⟨s0, s1, s2, s3, s4, s5, s6⟩ := HB5.out.z7 1 (w.heap.size + 1) rfl rfl
   refine oR 21 rfl rfl fun K hK => ?_
   go_simp
   have HZ : Hid (zL w (((((((w15.setCell ⟨w.heap.size + 1, 0, none⟩ (.slice x1 T.length y1)).setCell ⟨w.heap.size + 1, 1, none⟩ (.slice x2 P.length y2)).setCell ⟨w.heap.size + 1, 2, none⟩ (.slice x3 V.length y3)).setCell ⟨w.heap.size + 1, 3, none⟩ (.int .i64 dv)).setCell ⟨w.heap.size + 1, 4, none⟩ (.slice x4 D.length y4)).setCell ⟨w.heap.size + 1, 5, none⟩ (.slice (some ⟨Q, 0, none⟩) G.length cq)).setCell ⟨w.heap.size + 1, 6, none⟩ (.slice x5 W.length y5)) [.cells #[.slice o1 T.length c1, .slice o2 P.length c2, .slice o3 V.length c3, .int .i64 dv, .slice od D.length cd, .slice (some A) G.length cg, .slice ov W.length cv] 32, .cells #[.slice x1 T.length y1, .slice x2 P.length y2, .slice x3 V.length y3, .int .i64 dv, .slice x4 D.length y4, .slice (some ⟨Q, 0, none⟩) G.length cq, .slice x5 W.length y5] 32]) := zA (((((((HB5.out.put 1 0 (w.heap.size + 1) _ _ (.slice x1 T.length y1) rfl rfl).put 1 1 (w.heap.size + 1) _ _ (.slice x2 P.length y2) rfl rfl).put 1 2 (w.heap.size + 1) _ _ (.slice x3 V.length y3) rfl rfl).put 1 3 (w.heap.size + 1) _ _ (.int .i64 dv) rfl rfl).put 1 4 (w.heap.size + 1) _ _ (.slice x4 D.length y4) rfl rfl).put 1 5 (w.heap.size + 1) _ _ (.slice (some ⟨Q, 0, none⟩) G.length cq) rfl rfl).put 1 6 (w.heap.size + 1) _ _ (.slice x5 W.length y5) rfl rfl)
   have HRz := zA (yN (yN (yN (yN (yN (yN (yN HR5.out (p := ⟨w.heap.size + 1, 0, none⟩) (by simp) (.slice x1 T.length y1)) (p := ⟨w.heap.size + 1, 1, none⟩) (by simp) (.slice x2 P.length y2)) (p := ⟨w.heap.size + 1, 2, none⟩) (by simp) (.slice x3 V.length y3)) (p := ⟨w.heap.size + 1, 3, none⟩) (by simp) (.int .i64 dv)) (p := ⟨w.heap.size + 1, 4, none⟩) (by simp) (.slice x4 D.length y4)) (p := ⟨w.heap.size + 1, 5, none⟩) (by simp) (.slice (some ⟨Q, 0, none⟩) G.length cq)) (p := ⟨w.heap.size + 1, 6, none⟩) (by simp) (.slice x5 W.length y5))
   have HSz := zA (((((((HS5.out.set (p := ⟨w.heap.size + 1, 0, none⟩) (by simp; try omega) (.slice x1 T.length y1)).set (p := ⟨w.heap.size + 1, 1, none⟩) (by simp; try omega) (.slice x2 P.length y2)).set (p := ⟨w.heap.size + 1, 2, none⟩) (by simp; try omega) (.slice x3 V.length y3)).set (p := ⟨w.heap.size + 1, 3, none⟩) (by simp; try omega) (.int .i64 dv)).set (p := ⟨w.heap.size + 1, 4, none⟩) (by simp; try omega) (.slice x4 D.length y4)).set (p := ⟨w.heap.size + 1, 5, none⟩) (by simp; try omega) (.slice (some ⟨Q, 0, none⟩) G.length cq)).set (p := ⟨w.heap.size + 1, 6, none⟩) (by simp; try omega) (.slice x5 W.length y5))
   have HZ1 := zA (And.intro (((((((HL1w15.out.1.set HL1w15.out.2 (p := ⟨w.heap.size + 1, 0, none⟩) (by simp; try omega) (.slice x1 T.length y1)).set HL1w15.out.2 (p := ⟨w.heap.size + 1, 1, none⟩) (by simp; try omega) (.slice x2 P.length y2)).set HL1w15.out.2 (p := ⟨w.heap.size + 1, 2, none⟩) (by simp; try omega) (.slice x3 V.length y3)).set HL1w15.out.2 (p := ⟨w.heap.size + 1, 3, none⟩) (by simp; try omega) (.int .i64 dv)).set HL1w15.out.2 (p := ⟨w.heap.size + 1, 4, none⟩) (by simp; try omega) (.slice x4 D.length y4)).set HL1w15.out.2 (p := ⟨w.heap.size + 1, 5, none⟩) (by simp; try omega) (.slice (some ⟨Q, 0, none⟩) G.length cq)).set HL1w15.out.2 (p := ⟨w.heap.size + 1, 6, none⟩) (by simp; try omega) (.slice x5 W.length y5)) HL1w15.out.2)
   have HZ2 := zA (And.intro (((((((HL2w15.out.1.set HL2w15.out.2 (p := ⟨w.heap.size + 1, 0, none⟩) (by simp; try omega) (.slice x1 T.length y1)).set HL2w15.out.2 (p := ⟨w.heap.size + 1, 1, none⟩) (by simp; try omega) (.slice x2 P.length y2)).set HL2w15.out.2 (p := ⟨w.heap.size + 1, 2, none⟩) (by simp; try omega) (.slice x3 V.length y3)).set HL2w15.out.2 (p := ⟨w.heap.size + 1, 3, none⟩) (by simp; try omega) (.int .i64 dv)).set HL2w15.out.2 (p := ⟨w.heap.size + 1, 4, none⟩) (by simp; try omega) (.slice x4 D.length y4)).set HL2w15.out.2 (p := ⟨w.heap.size + 1, 5, none⟩) (by simp; try omega) (.slice (some ⟨Q, 0, none⟩) G.length cq)).set HL2w15.out.2 (p := ⟨w.heap.size + 1, 6, none⟩) (by simp; try omega) (.slice x5 W.length y5)) HL2w15.out.2)
   have HZ3 := zA (And.intro (((((((HL3w15.out.1.set HL3w15.out.2 (p := ⟨w.heap.size + 1, 0, none⟩) (by simp; try omega) (.slice x1 T.length y1)).set HL3w15.out.2 (p := ⟨w.heap.size + 1, 1, none⟩) (by simp; try omega) (.slice x2 P.length y2)).set HL3w15.out.2 (p := ⟨w.heap.size + 1, 2, none⟩) (by simp; try omega) (.slice x3 V.length y3)).set HL3w15.out.2 (p := ⟨w.heap.size + 1, 3, none⟩) (by simp; try omega) (.int .i64 dv)).set HL3w15.out.2 (p := ⟨w.heap.size + 1, 4, none⟩) (by simp; try omega) (.slice x4 D.length y4)).set HL3w15.out.2 (p := ⟨w.heap.size + 1, 5, none⟩) (by simp; try omega) (.slice (some ⟨Q, 0, none⟩) G.length cq)).set HL3w15.out.2 (p := ⟨w.heap.size + 1, 6, none⟩) (by simp; try omega) (.slice x5 W.length y5)) HL3w15.out.2)
   have HZ4 := zA (And.intro (((((((HL4w15.out.1.set HL4w15.out.2 (p := ⟨w.heap.size + 1, 0, none⟩) (by simp; try omega) (.slice x1 T.length y1)).set HL4w15.out.2 (p := ⟨w.heap.size + 1, 1, none⟩) (by simp; try omega) (.slice x2 P.length y2)).set HL4w15.out.2 (p := ⟨w.heap.size + 1, 2, none⟩) (by simp; try omega) (.slice x3 V.length y3)).set HL4w15.out.2 (p := ⟨w.heap.size + 1, 3, none⟩) (by simp; try omega) (.int .i64 dv)).set HL4w15.out.2 (p := ⟨w.heap.size + 1, 4, none⟩) (by simp; try omega) (.slice x4 D.length y4)).set HL4w15.out.2 (p := ⟨w.heap.size + 1, 5, none⟩) (by simp; try omega) (.slice (some ⟨Q, 0, none⟩) G.length cq)).set HL4w15.out.2 (p := ⟨w.heap.size + 1, 6, none⟩) (by simp; try omega) (.slice x5 W.length y5)) HL4w15.out.2)
   have HZ5 := zA (And.intro (((((((HL5.out.1.set HL5.out.2 (p := ⟨w.heap.size + 1, 0, none⟩) (by simp; try omega) (.slice x1 T.length y1)).set HL5.out.2 (p := ⟨w.heap.size + 1, 1, none⟩) (by simp; try omega) (.slice x2 P.length y2)).set HL5.out.2 (p := ⟨w.heap.size + 1, 2, none⟩) (by simp; try omega) (.slice x3 V.length y3)).set HL5.out.2 (p := ⟨w.heap.size + 1, 3, none⟩) (by simp; try omega) (.int .i64 dv)).set HL5.out.2 (p := ⟨w.heap.size + 1, 4, none⟩) (by simp; try omega) (.slice x4 D.length y4)).set HL5.out.2 (p := ⟨w.heap.size + 1, 5, none⟩) (by simp; try omega) (.slice (some ⟨Q, 0, none⟩) G.length cq)).set HL5.out.2 (p := ⟨w.heap.size + 1, 6, none⟩) (by simp; try omega) (.slice x5 W.length y5)) HL5.out.2)
   refine hK _ _ (zL.sub (os := [.cells #[.slice o1 T.length c1, .slice o2 P.length c2, .slice o3 V.length c3, .int .i64 dv, .slice od D.length cd, .slice (some A) G.length cg, .slice ov W.length cv] 32]) (more := [.cells #[.slice x1 T.length y1, .slice x2 P.length y2, .slice x3 V.length y3, .int .i64 dv, .slice x4 D.length y4, .slice (some ⟨Q, 0, none⟩) G.length cq, .slice x5 W.length y5] 32]) HZ.out) ?_
   clear hK K HB5 HR5 HS5 hQ5 HL1w15 HL2w15 HL3w15 HL4w15 HL5 r0 r1 r2 r3 r4 r5 r6 s0 s1 s2 s3 s4 s5 s6
   generalize (((((((w15.setCell ⟨w.heap.size + 1, 0, none⟩ (.slice x1 T.length y1)).setCell ⟨w.heap.size + 1, 1, none⟩ (.slice x2 P.length y2)).setCell ⟨w.heap.size + 1, 2, none⟩ (.slice x3 V.length y3)).setCell ⟨w.heap.size + 1, 3, none⟩ (.int .i64 dv)).setCell ⟨w.heap.size + 1, 4, none⟩ (.slice x4 D.length y4)).setCell ⟨w.heap.size + 1, 5, none⟩ (.slice (some ⟨Q, 0, none⟩) G.length cq)).setCell ⟨w.heap.size + 1, 6, none⟩ (.slice x5 W.length y5)) = wz at *
   refine wpAnyH_done (by kernel_rfl) ?_ _
   obtain ⟨g0, g1, g2, g3, g4, g5, g6⟩ := HZ.out.c7 1 (w.heap.size + 1) rfl rfl rfl rfl rfl rfl rfl rfl rfl
   go_wp2_with fail
   refine bodyPost_ret (v := stV x1 x2 x3 T.length y1 P.length y2 V.length y3 dv x4 D.length y4 (some ⟨Q, 0, none⟩) G.length cq x5 W.length y5) (by simp [results, Tryz.results30, go_sem, g0, g1, g2, g3, g4, g5, g6]) rfl ⟨⟨x1, y1, x2, y2, x3, y3, x4, y4, Q, cq, x5, y5, M, rfl, HMp.out, ⟨?_, HSz.out, HZ1.out, HZ2.out, HZ3.out, HZ4.out, HZ5.out⟩⟩, HZ.out.2.2⟩
   exact ownsRow_base HRz.out (by omega)
def bldE (T : List TK) (P : List TP) (V : List Int) (p : TP) : Int :=
 if (zO T P V p).2 = 0 then 0 else if (zO T P V p).1 = 3 ∨ (zO T P V p).2 = 5 then 0 else (zO T P V p).2
def bldP (T : List TK) (P : List TP) (V : List Int) (p : TP) : List TP := if (zO T P V p).2 = 0 then P ++ [p] else P
def bldV (T : List TK) (P : List TP) (V : List Int) (p : TP) : List Int := if (zO T P V p).2 = 0 then V ++ [(zO T P V p).1] else V
def bldD (T : List TK) (P : List TP) (V : List Int) (D : List TP) (p : TP) : List TP :=
 if (zO T P V p).2 = 0 then D else if (zO T P V p).1 = 3 ∨ (zO T P V p).2 = 5 then D ++ [p] else D
def Off {α : Type} (o : Option Addr) (L : List α) (g : Nat) : Prop := ∀ A, o = some A → L ≠ [] → A.block ≠ g
def Bld (w : World) (B base F : Nat) (T : List TK) (P : List TP) (V : List Int) (D : List TP) : Prop :=
 ∃ o1 c1 o2 c2 o3 c3 o4 c4, w.heap[B]? = some (.cells #[.slice o1 T.length c1, .slice o2 P.length c2, .slice o3 V.length c3, .slice o4 D.length c4] 173) ∧ xW w (lg o1 o2 o3 T.length c1 P.length c2 V.length c3) T P V ∧
  w.ownsRow base 79 5 (.slice o4 D.length c4) D.length (yA D) ∧ B < base ∧ base ≤ w.heap.size ∧ (∀ g, (Value.slice o4 D.length c4).ownBlock = some g → Off o1 T g ∧ Off o2 P g ∧ Off o3 V g) ∧ (zK F (.slice o1 T.length c1) ∧ zK F (.slice o2 P.length c2) ∧ zK F (.slice o3 V.length c3)) ∧ F ≤ base
theorem yY (A : Addr) (n : Nat) : (A.add n).block = A.block := by unfold Addr.add; split <;> rfl
theorem xW.parts3 {w : World} {o1 o2 o3 : Option Addr} {n1 c1 n2 c2 n3 c3 : Nat} {T : List TK} {P : List TP} {V : List Int} (h : xW w (lg o1 o2 o3 n1 c1 n2 c2 n3 c3) T P V) :
  yJ w (.slice o1 n1 c1) T ∧ zR w (.slice o2 n2 c2) P ∧ zP w (.slice o3 n3 c3) V := by
 obtain ⟨v1, v2, v3, e, h1, h2, h3⟩ := h
 simp only [Value.agg.injEq] at e
 injection e with e
 injection e with e1 e
 injection e with e2 e
 injection e with e3 e
 subst e1 e2 e3
 exact ⟨h1, h2, h3⟩
theorem xW.of {w : World} {o1 o2 o3 : Option Addr} {n1 c1 n2 c2 n3 c3 : Nat} {T : List TK} {P : List TP} {V : List Int} (h1 : yJ w (.slice o1 n1 c1) T) (h2 : zR w (.slice o2 n2 c2) P) (h3 : zP w (.slice o3 n3 c3) V) :
  xW w (lg o1 o2 o3 n1 c1 n2 c2 n3 c3) T P V := ⟨_, _, _, rfl, h1, h2, h3⟩
theorem zR.eqs {w : World} {o : Option Addr} {n c : Nat} {L : List TP} (h : zR w (.slice o n c) L) : n = L.length ∧ zI w o L ∧ L.length ≤ c ∧ (o = none → c = 0) := by
 obtain ⟨o', c', e, h1, h2, h3⟩ := h
 simp only [Value.slice.injEq] at e
 obtain ⟨rfl, rfl, rfl⟩ := e
 exact ⟨rfl, h1, h2, h3⟩
theorem yJ.eqs {w : World} {o : Option Addr} {n c : Nat} {L : List TK} (h : yJ w (.slice o n c) L) : n = L.length ∧ zV w o L ∧ L.length ≤ c ∧ (o = none → c = 0) := by
 obtain ⟨o', c', e, h1, h2, h3⟩ := h
 simp only [Value.slice.injEq] at e
 obtain ⟨rfl, rfl, rfl⟩ := e
 exact ⟨rfl, h1, h2, h3⟩
theorem zP.eqs {w : World} {o : Option Addr} {n c : Nat} {L : List Int} (h : zP w (.slice o n c) L) : n = L.length ∧ zH w o L ∧ L.length ≤ c ∧ (o = none → c = 0) := by
 obtain ⟨o', c', e, h1, h2, h3⟩ := h
 simp only [Value.slice.injEq] at e
 obtain ⟨rfl, rfl, rfl⟩ := e
 exact ⟨rfl, h1, h2, h3⟩
theorem Off.ne {α : Type} {o : Option Addr} {L : List α} {r : Option Nat} (ho : ∀ g, r = some g → Off o L g) {A : Addr} (h : o = some A) {i : Nat} {p : α} (hi : L[i]? = some p) (n : Nat) : some (A.add n).block ≠ r := by
 intro e
 exact ho _ e.symm A h (by intro h0; rw [h0] at hi; simp at hi) (yY A n).symm
theorem zR.grown {w w' : World} {o : Option Addr} {n c : Nat} {L : List TP} {r : Option Nat} (h : zR w (.slice o n c) L) (hg : w.grownBy w' r) (ho : ∀ g, r = some g → Off o L g) : zR w' (.slice o n c) L := by
 obtain ⟨rfl, h1, h2⟩ := h.eqs
 refine ⟨o, c, rfl, fun i p hi => ?_, h2⟩
 obtain ⟨b, hb, c0, c1, c2, c3, c4⟩ := h1 i p hi
 have ne := Off.ne ho hb hi (i * 5)
 exact ⟨b, hb, hg.cell c0 ne, hg.cell c1 ne, hg.cell c2 ne, hg.cell c3 ne, hg.cell c4 ne⟩
theorem yJ.grown {w w' : World} {o : Option Addr} {n c : Nat} {L : List TK} {r : Option Nat} (h : yJ w (.slice o n c) L) (hg : w.grownBy w' r) (ho : ∀ g, r = some g → Off o L g) : yJ w' (.slice o n c) L := by
 obtain ⟨rfl, h1, h2⟩ := h.eqs
 refine ⟨o, c, rfl, fun i p hi => ?_, h2⟩
 obtain ⟨b, hb, c0, c1, c2, c3, c4, c5⟩ := h1 i p hi
 have ne := Off.ne ho hb hi (i * 6)
 exact ⟨b, hb, hg.cell c0 ne, hg.cell c1 ne, hg.cell c2 ne, hg.cell c3 ne, hg.cell c4 ne, hg.cell c5 ne⟩
theorem zP.grown {w w' : World} {o : Option Addr} {n c : Nat} {L : List Int} {r : Option Nat} (h : zP w (.slice o n c) L) (hg : w.grownBy w' r) (ho : ∀ g, r = some g → Off o L g) : zP w' (.slice o n c) L := by
 obtain ⟨rfl, h1, h2⟩ := h.eqs
 refine ⟨o, c, rfl, fun i p hi => ?_, h2⟩
 obtain ⟨b, hb, c0⟩ := h1 i p hi
 exact ⟨b, hb, hg.cell c0 (Off.ne ho hb hi i)⟩
theorem xT {w : World} {a b : Addr} {n : Int} {o : Option Addr} {k c : Nat} (ha : w.cell? a = some (.int .i64 n)) (hb : w.cell? b = some (.slice o k c)) (u : Value) : (w.setCell b u).cell? a = some (.int .i64 n) := by
 rw [World.cell?_setCell_other]
 ·exact ha
 ·intro e
  subst e
  rw [ha] at hb
  simp at hb
theorem zR.setS {w : World} {v : Value} {L : List TP} (h : zR w v L) {b : Addr} {o : Option Addr} {k c : Nat} (hb : w.cell? b = some (.slice o k c)) (u : Value) : zR (w.setCell b u) v L := by
 obtain ⟨o', c', e, h1, h2⟩ := h
 refine ⟨o', c', e, fun i p hi => ?_, h2⟩
 obtain ⟨d, hd, c0, c1, c2, c3, c4⟩ := h1 i p hi
 exact ⟨d, hd, xT c0 hb u, xT c1 hb u, xT c2 hb u, xT c3 hb u, xT c4 hb u⟩
theorem yJ.setS {w : World} {v : Value} {L : List TK} (h : yJ w v L) {b : Addr} {o : Option Addr} {k c : Nat} (hb : w.cell? b = some (.slice o k c)) (u : Value) : yJ (w.setCell b u) v L := by
 obtain ⟨o', c', e, h1, h2⟩ := h
 refine ⟨o', c', e, fun i p hi => ?_, h2⟩
 obtain ⟨d, hd, c0, c1, c2, c3, c4, c5⟩ := h1 i p hi
 exact ⟨d, hd, xT c0 hb u, xT c1 hb u, xT c2 hb u, xT c3 hb u, xT c4 hb u, xT c5 hb u⟩
theorem zP.setS {w : World} {v : Value} {L : List Int} (h : zP w v L) {b : Addr} {o : Option Addr} {k c : Nat} (hb : w.cell? b = some (.slice o k c)) (u : Value) : zP (w.setCell b u) v L := by
 obtain ⟨o', c', e, h1, h2⟩ := h
 refine ⟨o', c', e, fun i p hi => ?_, h2⟩
 obtain ⟨d, hd, c0⟩ := h1 i p hi
 exact ⟨d, hd, xT c0 hb u⟩
theorem yQ {w : World} {base : Nat} {e : TypeId} {size : Nat} {v : Value} {n : Nat} {xs : List Value} (h : w.ownsRow base e size v n xs) {p : Addr} (hp : p.block < base) (u : Value) : (w.setCell p u).ownsRow base e size v n xs := by
 refine ⟨h.1, ?_⟩
 rcases h.2 with h0 | ⟨g, cap, cur, h1, h2, h3, h4⟩
 ·exact .inl h0
 ·refine .inr ⟨g, cap, cur, h1, h2, ?_, h4⟩
  rw [heap_setCell_other w _ _ _ (by omega)]
  exact h3
theorem xM {w : World} {base : Nat} {e : TypeId} {size : Nat} {v : Value} {n : Nat} {xs : List Value} (h : w.ownsRow base e size v n xs) : ∃ o c, v = .slice o n c ∧ n ≤ c ∧ (o = none → c = 0) := by
 rcases h.2 with ⟨rfl, h0⟩ | ⟨g, cap, cur, rfl, -, -, hc, -⟩
 ·exact ⟨none, 0, by rw [h0], by omega, fun _ => rfl⟩
 ·exact ⟨_, cap, rfl, hc, fun h => by cases h⟩
theorem yH {w w' : World} {r : Option Nat} {b : Nat} {o : Obj} (hg : w.grownBy w' r) (h : w.heap[b]? = some o) (hne : ¬ some b = r) : w'.heap[b]? = some o := by
 rw [hg.block b (Array.getElem?_eq_some_iff.1 h).1 hne]
 exact h
theorem off_ltT {w : World} {o : Option Addr} {n c : Nat} {L : List TK} (h : yJ w (.slice o n c) L) : Off o L w.heap.size := by
 intro A hA hne
 obtain ⟨-, h1, -⟩ := h.eqs
 cases L with
 | nil => exact absurd rfl hne
 | cons p L =>
  obtain ⟨b, hb, c0, -⟩ := h1 0 p rfl
  rw [hA] at hb
  cases hb
  have := World.block_lt_of_cell? w _ c0
  rw [yY] at this
  omega
theorem jI {w : World} {o : Option Addr} {n c : Nat} {L : List TP} (h : zR w (.slice o n c) L) : Off o L w.heap.size := by
 intro A hA hne
 obtain ⟨-, h1, -⟩ := h.eqs
 cases L with
 | nil => exact absurd rfl hne
 | cons p L =>
  obtain ⟨b, hb, c0, -⟩ := h1 0 p rfl
  rw [hA] at hb
  cases hb
  have := World.block_lt_of_cell? w _ c0
  rw [yY] at this
  omega
theorem jH {w : World} {o : Option Addr} {n c : Nat} {L : List Int} (h : zP w (.slice o n c) L) : Off o L w.heap.size := by
 intro A hA hne
 obtain ⟨-, h1, -⟩ := h.eqs
 cases L with
 | nil => exact absurd rfl hne
 | cons p L =>
  obtain ⟨b, hb, c0⟩ := h1 0 p rfl
  rw [hA] at hb
  cases hb
  have := World.block_lt_of_cell? w _ c0
  rw [yY] at this
  omega
theorem zQ {α : Type} {o : Option Addr} {n c B g : Nat} {L : List α} (h : zK B (.slice o n c)) (hg : g < B) : Off o L g := by
 intro A hA _
 subst hA
 have := h A.block rfl
 omega
theorem five_newB (w : World) (a g s m z : Int) (T : TypeId) : ∀ j u, [Value.int .i64 a, .int .i64 g, .int .i64 s, .int .i64 m, .int .i64 z][j]? = some u → (w.alloc (.cells #[.int .i64 a, .int .i64 g, .int .i64 s, .int .i64 m, .int .i64 z] T)).cell? ((⟨w.heap.size, 0, none⟩ : Addr).add j) = some u := five_new w a g s m z T
theorem xD {P : Program} {w : World} {o : Oper} {a : Act} {K : Act → World → Prop} {Q : Exit → Act → World → Prop} (s x : Operand) (t : TypeId)
  (ho : o.op = .call { callee := .builtin .append, args := #[s, x], argTypes := #[t, t] })
  (base : Nat) (e : TypeId) (i : TypeInfo) (z : Value) (size bytes : Nat) (ht : P.underlying t = some (.slice e)) (hi : P.info? e = some i) (hz : i.zero = some z)
  (hsize : i.size = size) (hby : i.bytes = bytes) (hzs : z.cells.size = size) (hsz : 0 < size)
  (v : Value) (n : Nat) (xs : List Value) (hs : a.eval s = v) (hown : w.ownsRow base e size v n xs)
  (ad : Addr) (m c : Nat) (news : List Value) (hx : a.eval x = .slice (some ad) m c) (hl : news.length = m * size) (hnews : ∀ j u, news[j]? = some u → w.cell? (ad.add j) = some u) (h1 : ∀ u ∈ news, u.oneCell' = true)
  (h63 : n + m ≤ maxLen) (hbytes : (n + m) * bytes ≤ 140737488355328) (hbase : base ≤ w.heap.size)
  (h : ∀ v' w', w'.ownsRow base e size v' (n + m) (xs ++ news) → w.grownBy w' v.ownBlock → (v'.ownBlock = v.ownBlock ∨ v'.ownBlock = some w.heap.size) → K (a.put o.dst v') w') : o.wp P a w K Q := by
 obtain ⟨v', w', hr, h2, h3, _, h5⟩ := run_append_own_at (P := P) w base t o.type e i z size bytes ht hi hz hsize hby hzs hsz v n xs hown ad m c news hl hnews h1 h63 hbytes hbase
 unfold Oper.wp execOp
 simp only [ho, resolve, invoke, builtin, Sem.run_bind, Sem.run_pure, Result.andThen_ok, List.map_toArray, List.map_cons, List.map_nil, hs, hx, hr]
 exact h v' w' h2 h3 h5
theorem zC {w w' : World} {b : Nat} {o : Obj} (h : w.heap[b]? = some o) (hb : Below w.heap.size w w') : w'.heap[b]? = some o := by
 rw [hb.block _ (Array.getElem?_eq_some_iff.1 h).1]
 exact h
theorem LedN.open6 {B : Nat} {w : World} {v : Value} {T : List TK} {P : List TP} {V : List Int} (h : LedN B w v T P V) : ∃ q1 e1 q2 e2 q3 e3, v = lg q1 q2 q3 T.length e1 P.length e2 V.length e3 ∧ yJ w (.slice q1 T.length e1) T ∧ zR w (.slice q2 P.length e2) P ∧ zP w (.slice q3 V.length e3) V ∧
  zK B (.slice q1 T.length e1) ∧ zK B (.slice q2 P.length e2) ∧ zK B (.slice q3 V.length e3) := by
 obtain ⟨v1, v2, v3, rfl, ⟨h1, f1⟩, ⟨h2, f2⟩, ⟨h3, f3⟩⟩ := h
 obtain ⟨q1, e1, rfl, a1⟩ := h1
 obtain ⟨q2, e2, rfl, a2⟩ := h2
 obtain ⟨q3, e3, rfl, a3⟩ := h3
 exact ⟨q1, e1, q2, e2, q3, e3, rfl, ⟨q1, e1, rfl, a1⟩, ⟨q2, e2, rfl, a2⟩, ⟨q3, e3, rfl, a3⟩, f1, f2, f3⟩
theorem ownsRow_belowB {w w' : World} {base : Nat} {e : TypeId} {size : Nat} {v : Value} {n : Nat} {xs : List Value} (h : w.ownsRow base e size v n xs) (hb : Below w.heap.size w w') : w'.ownsRow base e size v n xs := zF h hb
theorem zK.monoB {B C : Nat} {v : Value} (h : zK B v) (hc : C ≤ B) : zK C v := fun k hk => Nat.le_trans hc (h k hk)
theorem enterN {w : World} {v : Value} {T : List TK} {P : List TP} {V : List Int} (h : xW w v T P V) (hl : xP T P V) (a g s m z : Int) : Calls Tryz.prog 152 #[v, tp a g s m z] w fun e w' =>
   (∃ v, e = .returned (.tuple #[v, .int .i64 (zO T P V ⟨a, g, s, m, z⟩).1, .int .i64 (zO T P V ⟨a, g, s, m, z⟩).2]) ∧ LedN w.heap.size w' v (if (zO T P V ⟨a, g, s, m, z⟩).2 = 0 then T else []) (if (zO T P V ⟨a, g, s, m, z⟩).2 = 0 then P ++ [(⟨a, g, s, m, z⟩ : TP)] else [])
    (if (zO T P V ⟨a, g, s, m, z⟩).2 = 0 then V ++ [(zO T P V ⟨a, g, s, m, z⟩).1] else [])) ∧ Below w.heap.size w w' := by
 obtain ⟨o1, c1, o2, c2, o3, c3, rfl, a1, a2, a3, ⟨-, l2, l3⟩, -, n2, n3⟩ := h.opened
 exact enterF_any T P V a g s m z o1 o2 o3 c1 c2 c3 w a1 a2 a3 hl.1 hl.2.1 hl.2.2 l2 l3 n2 n3
theorem bEnter_any (B base F : Nat) (T : List TK) (P : List TP) (V : List Int) (D : List TP) (a g s m z : Int) (w : World) (hB : Bld w B base F T P V D) (hl : xP T P V) (hD : D.length ≤ 100) :
  Calls Tryz.prog 144 #[.pointer (some ⟨B, 0, none⟩), tp a g s m z] w fun e w' => (e = .returned (.int .i64 (bldE T P V ⟨a, g, s, m, z⟩)) ∧ Bld w' B base F T (bldP T P V ⟨a, g, s, m, z⟩) (bldV T P V ⟨a, g, s, m, z⟩) (bldD T P V D ⟨a, g, s, m, z⟩)) ∧ Below B w w' := by
 obtain ⟨o1, c1, o2, c2, o3, c3, o4, c4, hb0, hled, hrow, hBb, hbase, hoff, hfr, hFb⟩ := hB
 have HFr := zA hfr
 clear hfr
 have hBlt : B < w.heap.size := by omega
 have HE := zA (fun W (h : xW W (lg o1 o2 o3 T.length c1 P.length c2 V.length c3) T P V) => enterN h hl a g s m z)
 have hway : ((zO T P V ⟨a, g, s, m, z⟩).2 = 0 ∧ bldE T P V ⟨a, g, s, m, z⟩ = 0 ∧ bldP T P V ⟨a, g, s, m, z⟩ = P ++ [⟨a, g, s, m, z⟩] ∧ bldV T P V ⟨a, g, s, m, z⟩ = V ++ [(zO T P V ⟨a, g, s, m, z⟩).1] ∧ bldD T P V D ⟨a, g, s, m, z⟩ = D) ∨
   ((zO T P V ⟨a, g, s, m, z⟩).2 ≠ 0 ∧ ((zO T P V ⟨a, g, s, m, z⟩).1 = 3 ∨ ((zO T P V ⟨a, g, s, m, z⟩).1 ≠ 3 ∧ (zO T P V ⟨a, g, s, m, z⟩).2 = 5)) ∧ bldE T P V ⟨a, g, s, m, z⟩ = 0 ∧ bldP T P V ⟨a, g, s, m, z⟩ = P ∧ bldV T P V ⟨a, g, s, m, z⟩ = V ∧ bldD T P V D ⟨a, g, s, m, z⟩ = D ++ [⟨a, g, s, m, z⟩]) ∨
   ((zO T P V ⟨a, g, s, m, z⟩).2 ≠ 0 ∧ (zO T P V ⟨a, g, s, m, z⟩).1 ≠ 3 ∧ (zO T P V ⟨a, g, s, m, z⟩).2 ≠ 5 ∧ bldE T P V ⟨a, g, s, m, z⟩ = (zO T P V ⟨a, g, s, m, z⟩).2 ∧ bldP T P V ⟨a, g, s, m, z⟩ = P ∧ bldV T P V ⟨a, g, s, m, z⟩ = V ∧ bldD T P V D ⟨a, g, s, m, z⟩ = D) := by
  simp only [bldE, bldP, bldV, bldD]
  by_cases h1 : (zO T P V ⟨a, g, s, m, z⟩).2 = 0
  ·left; simp [h1]
  ·right
   by_cases h2 : (zO T P V ⟨a, g, s, m, z⟩).1 = 3
   ·left; simp [h1, h2]
   ·by_cases h3 : (zO T P V ⟨a, g, s, m, z⟩).2 = 5
    ·left; simp [h2, h3]
    ·right; simp [h1, h2, h3]
 generalize bldE T P V ⟨a, g, s, m, z⟩ = RE at *
 generalize bldP T P V ⟨a, g, s, m, z⟩ = RP at *
 generalize bldV T P V ⟨a, g, s, m, z⟩ = RV at *
 generalize bldD T P V D ⟨a, g, s, m, z⟩ = RD at *
 generalize (zO T P V ⟨a, g, s, m, z⟩).1 = v at *
 generalize (zO T P V ⟨a, g, s, m, z⟩).2 = E at *
 have HW := zA hway
 have H0 := zA hb0
 have HL := zA hled
 have HR := zA hrow
 have HO := zA hoff
 clear hway hb0 hled hrow hoff
 have HA := zA ((Below.refl w.heap.size w).alloc (Nat.le_refl _) (.cells #[.int .i64 a, .int .i64 g, .int .i64 s, .int .i64 m, .int .i64 z] 79))
 have HP0 := zA (heap_alloc_new w (.cells #[.int .i64 a, .int .i64 g, .int .i64 s, .int .i64 m, .int .i64 z] 79))
 have HB0 := zA (zC H0.out HA.out)
 have HL0 := zA (HL.out.below HA.out)
 have hs0 : (w.alloc (.cells #[.int .i64 a, .int .i64 g, .int .i64 s, .int .i64 m, .int .i64 z] 79)).heap.size = w.heap.size + 1 := by simp
 go_enter Tryz.func144, Tryz.ntmps144
 go_wp2_with fail
 generalize w.alloc (.cells #[.int .i64 a, .int .i64 g, .int .i64 s, .int .i64 m, .int .i64 z] 79) = wa at *
 refine zJ (fun w' => w'.heap[B]? = some (.cells #[.slice o1 T.length c1, .slice o2 P.length c2, .slice o3 V.length c3, .slice o4 D.length c4] 173) ∧ w'.heap[w.heap.size]? = some (.cells #[.int .i64 a, .int .i64 g, .int .i64 s, .int .i64 m, .int .i64 z] 79)) [0, 1, 2, 3, 4] 9 (by rfl) (by kernel_rfl) (by kernel_rfl) (by kernel_rfl) (fun c d v a w h => by cases d <;> exact h) ?_ ?_
 ·exact ⟨zC HB0.out (Below.refl _ _).drew, zC HP0.out (Below.refl _ _).drew⟩
 refine zB (.pointer (some ⟨B, 0, none⟩)) rfl rfl (fun w' _ => ?_) ?_
 ·go_simp
 refine zB (.pointer (some ⟨B, 0, none⟩)) rfl rfl (fun w' _ => ?_) ?_
 ·go_simp
 refine zB (.pointer (some ⟨B, 0, none⟩)) rfl rfl (fun w' _ => ?_) ?_
 ·go_simp
 refine zB (lg o1 o2 o3 T.length c1 P.length c2 V.length c3) rfl rfl (fun w' hS => ?_) ?_
 ·have k0 := cell_of_row _ _ 0 _ _ _ hS.1
  have k1 := cell_of_row _ _ 1 _ _ _ hS.1
  have k2 := cell_of_row _ _ 2 _ _ _ hS.1
  simp at k0 k1 k2
  go_simp
 refine zB (tp a g s m z) rfl rfl (fun w' hS => ?_) ?_
 ·have k0 := cell_of_row _ _ 0 _ _ _ hS.2
  have k1 := cell_of_row _ _ 1 _ _ _ hS.2
  have k2 := cell_of_row _ _ 2 _ _ _ hS.2
  have k3 := cell_of_row _ _ 3 _ _ _ hS.2
  have k4 := cell_of_row _ _ 4 _ _ _ hS.2
  simp at k0 k1 k2 k3 k4
  go_simp
 refine zE ?_
 have HPd := zA (zC HP0.out (Below.refl _ _).drew)
 have HBd := zA (zC HB0.out (Below.refl _ _).drew)
 have HLd := zA (HL0.out.below (Below.refl _ _).drew)
 have HAd := zA (HA.out.drew)
 have hsd : wa.drew.heap.size = w.heap.size + 1 := by rw [← hs0]; rfl
 clear HP0 HB0 HL0 HA hs0
 generalize World.drew _ = wb at *
 have hgl : ∀ k, (Value.slice o4 D.length c4).ownBlock = some k → base ≤ k ∧ k < w.heap.size := fun k hk => HR.out.lt k hk
 have HGL := zA hgl
 clear hgl
 obtain ⟨X1, hX1⟩ : ∃ X1, X1 = if E = 0 then T else [] := ⟨_, rfl⟩
 obtain ⟨X2, hX2⟩ : ∃ X2, X2 = if E = 0 then P ++ [(⟨a, g, s, m, z⟩ : TP)] else [] := ⟨_, rfl⟩
 obtain ⟨X3, hX3⟩ : ∃ X3, X3 = if E = 0 then V ++ [v] else [] := ⟨_, rfl⟩
 rw [← hX1, ← hX2, ← hX3] at HE
 have HX := zA (And.intro hX1 (And.intro hX2 hX3))
 clear hX1 hX2 hX3
 have HLw := zA HLd.out.parts3
 refine zT (i := 5) (j := 10) (by kernel_rfl) rfl rfl rfl rfl (fun K hK => ?_) (fun K hK => ?_)
 ·go_simp
  refine (HE.out _ HLd.out).mono ?_
  rintro e w1 ⟨⟨lv, rfl, hN⟩, hb⟩
  obtain ⟨q1, e1, q2, e2, q3, e3, rfl, hN6⟩ := hN.open6
  have HSX := zA (And.intro (zC HBd.out hb) (zC HPd.out hb))
  have HN1 := zA hN6
  have HLw1 := zA (And.intro (HLw.out.1.below hb) (And.intro (HLw.out.2.1.below hb) (HLw.out.2.2.below hb)))
  have HB1 := zA (HAd.out.trans (hb.mono (by omega)))
  have hs1 := hb.size
  clear hN hN6 hb
  refine hK _ _ HSX.out ?_
  clear hK K
  refine yB (fuel := 4) (by kernel_rfl) (fun c d v a w h => by cases d <;> exact h) HSX.out [6, 7, 8, 9] _ _ (by kernel_rfl) ?_
  refine zB (.tuple #[lg q1 q2 q3 X1.length e1 X2.length e2 X3.length e3, .int .i64 v, .int .i64 E]) rfl rfl (fun w' _ => ?_) ?_
  ·go_simp
  refine zB (lg q1 q2 q3 X1.length e1 X2.length e2 X3.length e3) rfl rfl (fun w' _ => ?_) ?_
  ·go_simp
  refine zB (.int .i64 v) rfl rfl (fun w' _ => ?_) ?_
  ·go_simp
  refine zB (.int .i64 E) rfl rfl (fun w' _ => ?_) ?_
  ·go_simp
  refine zE ?_
  refine oR 10 rfl rfl fun K hK => ?_
  go_simp
  refine hK _ _ ⟨zC HSX.out.1 ((Below.refl _ _).alloc (Nat.le_refl _) _), zC HSX.out.2 ((Below.refl _ _).alloc (Nat.le_refl _) _)⟩ ?_
  clear hK K
  refine oR 11 rfl rfl fun K hK => ?_
  go_simp
  have hba := (Below.refl w1.heap.size w1).alloc (Nat.le_refl _) (.cells #[.slice q1 X1.length e1, .slice q2 X2.length e2, .slice q3 X3.length e3] 26)
  have HSZ := zA (And.intro (zC HSX.out.1 hba) (zC HSX.out.2 hba))
  have H5 := zA (heap_alloc_new w1 (.cells #[.slice q1 X1.length e1, .slice q2 X2.length e2, .slice q3 X3.length e3] 26))
  have HNZ := zA (And.intro (HN1.out.1.below hba) (And.intro (HN1.out.2.1.below hba) (HN1.out.2.2.1.below hba)))
  have HFZ := zA HN1.out.2.2.2
  have HLZ := zA (And.intro (HLw1.out.1.below hba) (And.intro (HLw1.out.2.1.below hba) (HLw1.out.2.2.below hba)))
  have HBZ := zA (HB1.out.trans (hba.mono (by omega)))
  have HRZ := zA (ownsRow_belowB HR.out (HB1.out.trans (hba.mono (by omega))))
  clear hba
  refine hK _ _ HSZ.out ?_
  clear hK K HSX HN1 HLw1 HB1 HBd HPd HLd HAd HE HLw
  generalize w1.alloc (.cells #[.slice q1 X1.length e1, .slice q2 X2.length e2, .slice q3 X3.length e3] 26) = wz at *
  refine oR 12 rfl rfl fun K hK => ?_
  go_simp
  refine hK _ _ HSZ.out ?_
  clear hK K
  refine oR 13 rfl rfl fun K hK => ?_
  go_simp
  refine hK _ _ HSZ.out ?_
  clear hK K
  refine wpAnyH_done (by kernel_rfl) ?_ _
  have hB5 : B ≠ (w1.heap.size) := by omega
  obtain ⟨i0, hi, hz0, hz1, hz2⟩ := info_parts info32
  rcases HW.out with ⟨h1, h2, h3, h4, h5⟩ | ⟨h1, hr, h2, h3, h4, h5⟩ | ⟨h1, hv, h5e, h2, h3, h4, h5⟩
  ·subst h1 h2 h3 h4
   obtain rfl := h5.symm
   obtain ⟨hx1, hx2, hx3⟩ := HX.out
   simp only [if_true] at hx1 hx2 hx3
   obtain rfl := hx1.symm
   subst hx2 hx3
   have k51 := cell_of_row _ _ 1 _ _ _ H5.out
   have k52 := cell_of_row _ _ 2 _ _ _ H5.out
   have kB1 := cell_of_row _ _ 1 _ _ _ HSZ.out.1
   have kB2 := cell_of_row _ _ 2 _ _ _ HSZ.out.1
   have fB1 := frozen_of_row _ _ 1 _ _ HSZ.out.1
   have fB2 := frozen_of_row _ _ 2 _ _ HSZ.out.1
   simp at k51 k52 kB1 kB2
   go_wp2_with fail
   go_region
   go_wp2_with fail
   have kB2' : (wz.setCell ⟨B, 1, none⟩ (.slice q2 (P ++ [(⟨a, g, s, m, z⟩ : TP)]).length e2)).cell? ⟨B, 2, none⟩ = some (.slice o3 V.length c3) := by rw [World.cell?_setCell_other _ _ _ _ (by simp)]; exact kB2
   have hW := heap_setCell_same _ B 2 _ _ (.slice q3 (V ++ [v]).length e3) (heap_setCell_same wz B 1 _ _ (.slice q2 (P ++ [(⟨a, g, s, m, z⟩ : TP)]).length e2) HSZ.out.1)
   have hT1 := (HLZ.out.1.setS kB1 (.slice q2 (P ++ [(⟨a, g, s, m, z⟩ : TP)]).length e2)).setS kB2' (.slice q3 (V ++ [v]).length e3)
   have hP1 := (HNZ.out.2.1.setS kB1 (.slice q2 (P ++ [(⟨a, g, s, m, z⟩ : TP)]).length e2)).setS kB2' (.slice q3 (V ++ [v]).length e3)
   have hV1 := (HNZ.out.2.2.setS kB1 (.slice q2 (P ++ [(⟨a, g, s, m, z⟩ : TP)]).length e2)).setS kB2' (.slice q3 (V ++ [v]).length e3)
   have hR1 := yQ (yQ HRZ.out (p := ⟨B, 1, none⟩) hBb (.slice q2 (P ++ [(⟨a, g, s, m, z⟩ : TP)]).length e2)) (p := ⟨B, 2, none⟩) hBb (.slice q3 (V ++ [v]).length e3)
   have hZ1 := ((HBZ.out.mono (show B ≤ w.heap.size by omega)).setCell (p := ⟨B, 1, none⟩) (Nat.le_refl _) (.slice q2 (P ++ [(⟨a, g, s, m, z⟩ : TP)]).length e2)).setCell (p := ⟨B, 2, none⟩) (Nat.le_refl _) (.slice q3 (V ++ [v]).length e3)
   have hs1 : base ≤ ((wz.setCell ⟨B, 1, none⟩ (.slice q2 (P ++ [(⟨a, g, s, m, z⟩ : TP)]).length e2)).setCell ⟨B, 2, none⟩ (.slice q3 (V ++ [v]).length e3)).heap.size := by rw [World.size_setCell, World.size_setCell]; exact Nat.le_trans hbase HBZ.out.size
   have hof : ∀ k, (Value.slice o4 D.length c4).ownBlock = some k → Off o1 T k ∧ Off q2 (P ++ [(⟨a, g, s, m, z⟩ : TP)]) k ∧ Off q3 (V ++ [v]) k := fun k hk => ⟨(HO.out k hk).1, zQ HFZ.out.2.1 (by have := (HGL.out k hk).2; omega), zQ HFZ.out.2.2 (by have := (HGL.out k hk).2; omega)⟩
   rw [show (P ++ [(⟨a, g, s, m, z⟩ : TP)]).length = P.length + 1 by simp] at hW hT1 hP1 hV1 hR1 hZ1 hs1
   rw [show (V ++ [v]).length = V.length + 1 by simp] at hW hT1 hP1 hV1 hR1 hZ1 hs1
   clear kB2' kB1 kB2 fB1 fB2 k51 k52 HSZ HLZ HNZ HRZ HBZ H5
   generalize (wz.setCell ⟨B, 1, none⟩ (.slice q2 (P.length + 1) e2)).setCell ⟨B, 2, none⟩ (.slice q3 (V.length + 1) e3) = wu at *
   have hdr := (Below.refl wu.heap.size wu).drew
   go_ret
   exact ⟨⟨rfl, o1, c1, q2, e2, q3, e3, o4, c4, by simpa using zC hW hdr, xW.of (hT1.below hdr) (by simpa using hP1.below hdr) (by simpa using hV1.below hdr), zF hR1 hdr, hBb, hs1, hof, ⟨HFr.out.1, HFZ.out.2.1.monoB (by omega), HFZ.out.2.2.monoB (by omega)⟩, hFb⟩, hZ1.drew⟩
  ·have h1' : (E == 0) = false := by simpa using h1
   subst h2 h5
   obtain rfl := h3.symm
   obtain rfl := h4.symm
   rcases hr with hr | ⟨hr, hr2⟩
   ·have hr' : (v == 3) = true := by simpa using hr
    clear h1 hr
    go_wp2_with fail
    refine zJ (fun w' => w'.heap[w.heap.size]? = some (.cells #[.int .i64 a, .int .i64 g, .int .i64 s, .int .i64 m, .int .i64 z] 79)) [0, 1, 2, 3, 5] 6 (by rfl) (by kernel_rfl) (by kernel_rfl) (by kernel_rfl) (fun c d v a w h => by cases d <;> exact h) ?_ ?_
    ·exact zC HSZ.out.2 (Below.refl _ _).drew
    refine zB (.pointer (some ⟨B, 0, none⟩)) rfl rfl (fun w' _ => ?_) ?_
    ·go_simp
    refine zB (.pointer (some ⟨B, 0, none⟩)) rfl rfl (fun w' _ => ?_) ?_
    ·go_simp
    refine zB (.pointer (some ⟨B, 0, none⟩)) rfl rfl (fun w' _ => ?_) ?_
    ·go_simp
    refine zB (.pointer (some ⟨B, 3, none⟩)) rfl rfl (fun w' _ => ?_) ?_
    ·go_simp
    refine zB (tp a g s m z) rfl rfl (fun w' hS => ?_) ?_
    ·have k0 := cell_of_row _ _ 0 _ _ _ hS
     have k1 := cell_of_row _ _ 1 _ _ _ hS
     have k2 := cell_of_row _ _ 2 _ _ _ hS
     have k3 := cell_of_row _ _ 3 _ _ _ hS
     have k4 := cell_of_row _ _ 4 _ _ _ hS
     simp at k0 k1 k2 k3 k4
     go_simp
    refine zE ?_
    have hdr := (Below.refl wz.heap.size wz).drew
    have HSy := zA (And.intro (zC HSZ.out.1 hdr) (zC HSZ.out.2 hdr))
    have HLy := zA (And.intro (HLZ.out.1.below hdr) (And.intro (HLZ.out.2.1.below hdr) (HLZ.out.2.2.below hdr)))
    have HRy := zA (zF HRZ.out hdr)
    have HBy := zA HBZ.out.drew
    clear hdr HSZ HLZ HRZ HBZ H5 HNZ HFZ HX
    generalize World.drew _ = wy at *
    have hwy := HBy.out.size
    have hall := (Below.refl wy.heap.size wy).alloc (Nat.le_refl _) (.cells #[.int .i64 a, .int .i64 g, .int .i64 s, .int .i64 m, .int .i64 z] 79)
    have HSx := zA (And.intro (zC HSy.out.1 hall) (zC HSy.out.2 hall))
    have HLx := zA (And.intro (HLy.out.1.below hall) (And.intro (HLy.out.2.1.below hall) (HLy.out.2.2.below hall)))
    have HRx := zA (zF HRy.out hall)
    have HBx := zA (HBy.out.trans (hall.mono hwy))
    have HNx := zA (five_newB wy a g s m z 79)
    have hsx : (wy.alloc (.cells #[.int .i64 a, .int .i64 g, .int .i64 s, .int .i64 m, .int .i64 z] 79)).heap.size = wy.heap.size + 1 := by simp
    have k3y := cell_of_row _ _ 3 _ _ _ HSy.out.1
    have k3x := cell_of_row _ _ 3 _ _ _ HSx.out.1
    simp at k3y k3x
    clear hall
    refine zT (i := 4) (j := 6) (by kernel_rfl) rfl rfl rfl rfl (fun K hK => ?_) (fun K hK => ?_)
    ·go_simp
     refine hK _ _ HSy.out.2 ?_
     clear hK K
     refine oR 6 rfl rfl fun K hK => ?_
     go_simp
     refine hK _ _ HSx.out.2 ?_
     clear hK K k3y k3x HSy HLy HRy HBy
     generalize wy.alloc (.cells #[.int .i64 a, .int .i64 g, .int .i64 s, .int .i64 m, .int .i64 z] 79) = wx at *
     refine oR 7 rfl rfl fun K hK => ?_
     refine xD _ _ 23 rfl base 79 i0 _ 5 40 Tryz.underlying23 hi hz0 hz1 hz2 rfl (by decide) (.slice o4 D.length c4) D.length (yA D) (by go_simp) HRx.out ⟨wy.heap.size, 0, none⟩ 1 1 [.int .i64 a, .int .i64 g, .int .i64 s, .int .i64 m, .int .i64 z] (by go_simp) rfl HNx.out (by intro u hu; simp at hu; rcases hu with rfl | rfl | rfl | rfl | rfl <;> rfl) (by unfold maxLen; omega) (by omega) (by omega) ?_
     intro v' wt hown hgrow hblk
     obtain ⟨o5, c5, rfl, hc5, hn5⟩ := xM hown
     have HB6 : Hid (wt.heap[B]? = some (.cells #[.slice o1 T.length c1, .slice o2 P.length c2, .slice o3 V.length c3, .slice o4 D.length c4] 173)) := yH hgrow HSx.out.1 (fun e => by have := (HRx.out.lt B e.symm).1; omega)
     have HP6 : Hid (wt.heap[w.heap.size]? = some (.cells #[.int .i64 a, .int .i64 g, .int .i64 s, .int .i64 m, .int .i64 z] 79)) := yH hgrow HSx.out.2 (fun e => by have := (HGL.out _ e.symm).2; omega)
     have HL6 := zA (And.intro (HLx.out.1.grown hgrow (fun k hk => (HO.out k hk).1)) (And.intro (HLx.out.2.1.grown hgrow (fun k hk => (HO.out k hk).2.1)) (HLx.out.2.2.grown hgrow (fun k hk => (HO.out k hk).2.2))))
     have HR6 : Hid (wt.ownsRow base 79 5 (.slice o5 (D.length + 1) c5) (D.length + 1) (yA (D ++ [(⟨a, g, s, m, z⟩ : TP)]))) := by
      show World.ownsRow _ _ _ _ _ _ _
      rw [xU]
      exact hown
     have HBt := zA ((HBx.out.mono (show B ≤ w.heap.size by omega)).grown hgrow (by omega) (fun k hk => by have := (HGL.out k hk).1; omega))
     have HOt : Hid (∀ k, (Value.slice o5 (D.length + 1) c5).ownBlock = some k → Off o1 T k ∧ Off o2 P k ∧ Off o3 V k) := by
      intro k hk
      rcases hblk with e | e
      ·rw [e] at hk; exact HO.out k hk
      ·rw [e] at hk
       obtain rfl : wx.heap.size = k := by simpa using hk
       exact ⟨off_ltT HLx.out.1, jI HLx.out.2.1, jH HLx.out.2.2⟩
     have hst : base ≤ wt.heap.size := by have := hgrow.size; omega
     clear hown hgrow hblk HSx HRx HLx HBx HNx
     refine hK _ _ HP6.out ?_
     clear hK K
     have k3 := cell_of_row _ _ 3 _ _ _ HB6.out
     have f3 := frozen_of_row _ _ 3 _ _ HB6.out
     simp at k3
     refine oR 8 rfl rfl fun K hK => ?_
     go_simp
     refine hK _ _ HP6.out ?_
     clear hK K
     refine oR 9 rfl rfl fun K hK => ?_
     go_simp
     refine hK _ _ HP6.out ?_
     clear hK K
     refine oR 10 rfl rfl fun K hK => ?_
     go_simp
     have HB7 := zA (heap_setCell_same wt B 3 _ _ (.slice o5 (D.length + 1) c5) HB6.out)
     have HP7 : Hid ((wt.setCell ⟨B, 3, none⟩ (.slice o5 (D.length + 1) c5)).heap[w.heap.size]? = some (.cells #[.int .i64 a, .int .i64 g, .int .i64 s, .int .i64 m, .int .i64 z] 79)) := by
      show _ = _
      rw [heap_setCell_other _ _ _ _ (by simp; omega)]
      exact HP6.out
     have HL7 := zA (And.intro (HL6.out.1.setS k3 (.slice o5 (D.length + 1) c5)) (And.intro (HL6.out.2.1.setS k3 (.slice o5 (D.length + 1) c5)) (HL6.out.2.2.setS k3 (.slice o5 (D.length + 1) c5))))
     have HR7 := zA (yQ HR6.out (p := ⟨B, 3, none⟩) hBb (.slice o5 (D.length + 1) c5))
     have HB8 := zA (HBt.out.setCell (p := ⟨B, 3, none⟩) (Nat.le_refl _) (.slice o5 (D.length + 1) c5))
     have hst' : base ≤ (wt.setCell ⟨B, 3, none⟩ (.slice o5 (D.length + 1) c5)).heap.size := by rw [World.size_setCell]; exact hst
     refine hK _ _ HP7.out ?_
     clear hK K k3 f3 HB6 HP6 HL6 HR6 HBt
     refine wpAnyH_done (by kernel_rfl) ?_ _
     generalize wt.setCell _ _ = wu at *
     go_wp2_with fail
     go_ret
     exact ⟨⟨rfl, o1, c1, o2, c2, o3, c3, o5, c5, by simpa using HB7.out, xW.of HL7.out.1 HL7.out.2.1 HL7.out.2.2, by simpa using HR7.out, hBb, hst', by simpa using HOt.out, HFr.out, hFb⟩, HB8.out⟩
    ·go_simp
     refine hK _ _ HSx.out.2 ?_
     clear hK K
     refine oR 4 rfl rfl fun K hK => ?_
     go_simp
     refine hK _ _ HSx.out.2 ?_
     clear hK K k3y k3x HSy HLy HRy HBy
     generalize wy.alloc (.cells #[.int .i64 a, .int .i64 g, .int .i64 s, .int .i64 m, .int .i64 z] 79) = wx at *
     refine oR 7 rfl rfl fun K hK => ?_
     refine xD _ _ 23 rfl base 79 i0 _ 5 40 Tryz.underlying23 hi hz0 hz1 hz2 rfl (by decide) (.slice o4 D.length c4) D.length (yA D) (by go_simp) HRx.out ⟨wy.heap.size, 0, none⟩ 1 1 [.int .i64 a, .int .i64 g, .int .i64 s, .int .i64 m, .int .i64 z] (by go_simp) rfl HNx.out (by intro u hu; simp at hu; rcases hu with rfl | rfl | rfl | rfl | rfl <;> rfl) (by unfold maxLen; omega) (by omega) (by omega) ?_
     intro v' wt hown hgrow hblk
     obtain ⟨o5, c5, rfl, hc5, hn5⟩ := xM hown
     have HB6 : Hid (wt.heap[B]? = some (.cells #[.slice o1 T.length c1, .slice o2 P.length c2, .slice o3 V.length c3, .slice o4 D.length c4] 173)) := yH hgrow HSx.out.1 (fun e => by have := (HRx.out.lt B e.symm).1; omega)
     have HP6 : Hid (wt.heap[w.heap.size]? = some (.cells #[.int .i64 a, .int .i64 g, .int .i64 s, .int .i64 m, .int .i64 z] 79)) := yH hgrow HSx.out.2 (fun e => by have := (HGL.out _ e.symm).2; omega)
     have HL6 := zA (And.intro (HLx.out.1.grown hgrow (fun k hk => (HO.out k hk).1)) (And.intro (HLx.out.2.1.grown hgrow (fun k hk => (HO.out k hk).2.1)) (HLx.out.2.2.grown hgrow (fun k hk => (HO.out k hk).2.2))))
     have HR6 : Hid (wt.ownsRow base 79 5 (.slice o5 (D.length + 1) c5) (D.length + 1) (yA (D ++ [(⟨a, g, s, m, z⟩ : TP)]))) := by
      show World.ownsRow _ _ _ _ _ _ _
      rw [xU]
      exact hown
     have HBt := zA ((HBx.out.mono (show B ≤ w.heap.size by omega)).grown hgrow (by omega) (fun k hk => by have := (HGL.out k hk).1; omega))
     have HOt : Hid (∀ k, (Value.slice o5 (D.length + 1) c5).ownBlock = some k → Off o1 T k ∧ Off o2 P k ∧ Off o3 V k) := by
      intro k hk
      rcases hblk with e | e
      ·rw [e] at hk; exact HO.out k hk
      ·rw [e] at hk
       obtain rfl : wx.heap.size = k := by simpa using hk
       exact ⟨off_ltT HLx.out.1, jI HLx.out.2.1, jH HLx.out.2.2⟩
     have hst : base ≤ wt.heap.size := by have := hgrow.size; omega
     clear hown hgrow hblk HSx HRx HLx HBx HNx
     refine hK _ _ HP6.out ?_
     clear hK K
     have k3 := cell_of_row _ _ 3 _ _ _ HB6.out
     have f3 := frozen_of_row _ _ 3 _ _ HB6.out
     simp at k3
     refine oR 8 rfl rfl fun K hK => ?_
     go_simp
     refine hK _ _ HP6.out ?_
     clear hK K
     refine oR 9 rfl rfl fun K hK => ?_
     go_simp
     refine hK _ _ HP6.out ?_
     clear hK K
     refine oR 10 rfl rfl fun K hK => ?_
     go_simp
     have HB7 := zA (heap_setCell_same wt B 3 _ _ (.slice o5 (D.length + 1) c5) HB6.out)
     have HP7 : Hid ((wt.setCell ⟨B, 3, none⟩ (.slice o5 (D.length + 1) c5)).heap[w.heap.size]? = some (.cells #[.int .i64 a, .int .i64 g, .int .i64 s, .int .i64 m, .int .i64 z] 79)) := by
      show _ = _
      rw [heap_setCell_other _ _ _ _ (by simp; omega)]
      exact HP6.out
     have HL7 := zA (And.intro (HL6.out.1.setS k3 (.slice o5 (D.length + 1) c5)) (And.intro (HL6.out.2.1.setS k3 (.slice o5 (D.length + 1) c5)) (HL6.out.2.2.setS k3 (.slice o5 (D.length + 1) c5))))
     have HR7 := zA (yQ HR6.out (p := ⟨B, 3, none⟩) hBb (.slice o5 (D.length + 1) c5))
     have HB8 := zA (HBt.out.setCell (p := ⟨B, 3, none⟩) (Nat.le_refl _) (.slice o5 (D.length + 1) c5))
     have hst' : base ≤ (wt.setCell ⟨B, 3, none⟩ (.slice o5 (D.length + 1) c5)).heap.size := by rw [World.size_setCell]; exact hst
     refine hK _ _ HP7.out ?_
     clear hK K k3 f3 HB6 HP6 HL6 HR6 HBt
     refine wpAnyH_done (by kernel_rfl) ?_ _
     generalize wt.setCell _ _ = wu at *
     go_wp2_with fail
     go_ret
     exact ⟨⟨rfl, o1, c1, o2, c2, o3, c3, o5, c5, by simpa using HB7.out, xW.of HL7.out.1 HL7.out.2.1 HL7.out.2.2, by simpa using HR7.out, hBb, hst', by simpa using HOt.out, HFr.out, hFb⟩, HB8.out⟩
   ·have hr' : (v == 3) = false := by simpa using hr
    have hr2' : (E == 5) = true := by simpa using hr2
    clear h1 hr hr2
    go_wp2_with fail
    refine zJ (fun w' => w'.heap[w.heap.size]? = some (.cells #[.int .i64 a, .int .i64 g, .int .i64 s, .int .i64 m, .int .i64 z] 79)) [0, 1, 2, 3, 5] 6 (by rfl) (by kernel_rfl) (by kernel_rfl) (by kernel_rfl) (fun c d v a w h => by cases d <;> exact h) ?_ ?_
    ·exact zC HSZ.out.2 (Below.refl _ _).drew
    refine zB (.pointer (some ⟨B, 0, none⟩)) rfl rfl (fun w' _ => ?_) ?_
    ·go_simp
    refine zB (.pointer (some ⟨B, 0, none⟩)) rfl rfl (fun w' _ => ?_) ?_
    ·go_simp
    refine zB (.pointer (some ⟨B, 0, none⟩)) rfl rfl (fun w' _ => ?_) ?_
    ·go_simp
    refine zB (.pointer (some ⟨B, 3, none⟩)) rfl rfl (fun w' _ => ?_) ?_
    ·go_simp
    refine zB (tp a g s m z) rfl rfl (fun w' hS => ?_) ?_
    ·have k0 := cell_of_row _ _ 0 _ _ _ hS
     have k1 := cell_of_row _ _ 1 _ _ _ hS
     have k2 := cell_of_row _ _ 2 _ _ _ hS
     have k3 := cell_of_row _ _ 3 _ _ _ hS
     have k4 := cell_of_row _ _ 4 _ _ _ hS
     simp at k0 k1 k2 k3 k4
     go_simp
    refine zE ?_
    have hdr := (Below.refl wz.heap.size wz).drew
    have HSy := zA (And.intro (zC HSZ.out.1 hdr) (zC HSZ.out.2 hdr))
    have HLy := zA (And.intro (HLZ.out.1.below hdr) (And.intro (HLZ.out.2.1.below hdr) (HLZ.out.2.2.below hdr)))
    have HRy := zA (zF HRZ.out hdr)
    have HBy := zA HBZ.out.drew
    clear hdr HSZ HLZ HRZ HBZ H5 HNZ HFZ HX
    generalize World.drew _ = wy at *
    have hwy := HBy.out.size
    have hall := (Below.refl wy.heap.size wy).alloc (Nat.le_refl _) (.cells #[.int .i64 a, .int .i64 g, .int .i64 s, .int .i64 m, .int .i64 z] 79)
    have HSx := zA (And.intro (zC HSy.out.1 hall) (zC HSy.out.2 hall))
    have HLx := zA (And.intro (HLy.out.1.below hall) (And.intro (HLy.out.2.1.below hall) (HLy.out.2.2.below hall)))
    have HRx := zA (zF HRy.out hall)
    have HBx := zA (HBy.out.trans (hall.mono hwy))
    have HNx := zA (five_newB wy a g s m z 79)
    have hsx : (wy.alloc (.cells #[.int .i64 a, .int .i64 g, .int .i64 s, .int .i64 m, .int .i64 z] 79)).heap.size = wy.heap.size + 1 := by simp
    have k3y := cell_of_row _ _ 3 _ _ _ HSy.out.1
    have k3x := cell_of_row _ _ 3 _ _ _ HSx.out.1
    simp at k3y k3x
    clear hall
    refine zT (i := 4) (j := 6) (by kernel_rfl) rfl rfl rfl rfl (fun K hK => ?_) (fun K hK => ?_)
    ·go_simp
     refine hK _ _ HSy.out.2 ?_
     clear hK K
     refine oR 6 rfl rfl fun K hK => ?_
     go_simp
     refine hK _ _ HSx.out.2 ?_
     clear hK K k3y k3x HSy HLy HRy HBy
     generalize wy.alloc (.cells #[.int .i64 a, .int .i64 g, .int .i64 s, .int .i64 m, .int .i64 z] 79) = wx at *
     refine oR 7 rfl rfl fun K hK => ?_
     refine xD _ _ 23 rfl base 79 i0 _ 5 40 Tryz.underlying23 hi hz0 hz1 hz2 rfl (by decide) (.slice o4 D.length c4) D.length (yA D) (by go_simp) HRx.out ⟨wy.heap.size, 0, none⟩ 1 1 [.int .i64 a, .int .i64 g, .int .i64 s, .int .i64 m, .int .i64 z] (by go_simp) rfl HNx.out (by intro u hu; simp at hu; rcases hu with rfl | rfl | rfl | rfl | rfl <;> rfl) (by unfold maxLen; omega) (by omega) (by omega) ?_
     intro v' wt hown hgrow hblk
     obtain ⟨o5, c5, rfl, hc5, hn5⟩ := xM hown
     have HB6 : Hid (wt.heap[B]? = some (.cells #[.slice o1 T.length c1, .slice o2 P.length c2, .slice o3 V.length c3, .slice o4 D.length c4] 173)) := yH hgrow HSx.out.1 (fun e => by have := (HRx.out.lt B e.symm).1; omega)
     have HP6 : Hid (wt.heap[w.heap.size]? = some (.cells #[.int .i64 a, .int .i64 g, .int .i64 s, .int .i64 m, .int .i64 z] 79)) := yH hgrow HSx.out.2 (fun e => by have := (HGL.out _ e.symm).2; omega)
     have HL6 := zA (And.intro (HLx.out.1.grown hgrow (fun k hk => (HO.out k hk).1)) (And.intro (HLx.out.2.1.grown hgrow (fun k hk => (HO.out k hk).2.1)) (HLx.out.2.2.grown hgrow (fun k hk => (HO.out k hk).2.2))))
     have HR6 : Hid (wt.ownsRow base 79 5 (.slice o5 (D.length + 1) c5) (D.length + 1) (yA (D ++ [(⟨a, g, s, m, z⟩ : TP)]))) := by
      show World.ownsRow _ _ _ _ _ _ _
      rw [xU]
      exact hown
     have HBt := zA ((HBx.out.mono (show B ≤ w.heap.size by omega)).grown hgrow (by omega) (fun k hk => by have := (HGL.out k hk).1; omega))
     have HOt : Hid (∀ k, (Value.slice o5 (D.length + 1) c5).ownBlock = some k → Off o1 T k ∧ Off o2 P k ∧ Off o3 V k) := by
      intro k hk
      rcases hblk with e | e
      ·rw [e] at hk; exact HO.out k hk
      ·rw [e] at hk
       obtain rfl : wx.heap.size = k := by simpa using hk
       exact ⟨off_ltT HLx.out.1, jI HLx.out.2.1, jH HLx.out.2.2⟩
     have hst : base ≤ wt.heap.size := by have := hgrow.size; omega
     clear hown hgrow hblk HSx HRx HLx HBx HNx
     refine hK _ _ HP6.out ?_
     clear hK K
     have k3 := cell_of_row _ _ 3 _ _ _ HB6.out
     have f3 := frozen_of_row _ _ 3 _ _ HB6.out
     simp at k3
     refine oR 8 rfl rfl fun K hK => ?_
     go_simp
     refine hK _ _ HP6.out ?_
     clear hK K
     refine oR 9 rfl rfl fun K hK => ?_
     go_simp
     refine hK _ _ HP6.out ?_
     clear hK K
     refine oR 10 rfl rfl fun K hK => ?_
     go_simp
     have HB7 := zA (heap_setCell_same wt B 3 _ _ (.slice o5 (D.length + 1) c5) HB6.out)
     have HP7 : Hid ((wt.setCell ⟨B, 3, none⟩ (.slice o5 (D.length + 1) c5)).heap[w.heap.size]? = some (.cells #[.int .i64 a, .int .i64 g, .int .i64 s, .int .i64 m, .int .i64 z] 79)) := by
      show _ = _
      rw [heap_setCell_other _ _ _ _ (by simp; omega)]
      exact HP6.out
     have HL7 := zA (And.intro (HL6.out.1.setS k3 (.slice o5 (D.length + 1) c5)) (And.intro (HL6.out.2.1.setS k3 (.slice o5 (D.length + 1) c5)) (HL6.out.2.2.setS k3 (.slice o5 (D.length + 1) c5))))
     have HR7 := zA (yQ HR6.out (p := ⟨B, 3, none⟩) hBb (.slice o5 (D.length + 1) c5))
     have HB8 := zA (HBt.out.setCell (p := ⟨B, 3, none⟩) (Nat.le_refl _) (.slice o5 (D.length + 1) c5))
     have hst' : base ≤ (wt.setCell ⟨B, 3, none⟩ (.slice o5 (D.length + 1) c5)).heap.size := by rw [World.size_setCell]; exact hst
     refine hK _ _ HP7.out ?_
     clear hK K k3 f3 HB6 HP6 HL6 HR6 HBt
     refine wpAnyH_done (by kernel_rfl) ?_ _
     generalize wt.setCell _ _ = wu at *
     go_wp2_with fail
     go_ret
     exact ⟨⟨rfl, o1, c1, o2, c2, o3, c3, o5, c5, by simpa using HB7.out, xW.of HL7.out.1 HL7.out.2.1 HL7.out.2.2, by simpa using HR7.out, hBb, hst', by simpa using HOt.out, HFr.out, hFb⟩, HB8.out⟩
    ·go_simp
     refine hK _ _ HSx.out.2 ?_
     clear hK K
     refine oR 4 rfl rfl fun K hK => ?_
     go_simp
     refine hK _ _ HSx.out.2 ?_
     clear hK K k3y k3x HSy HLy HRy HBy
     generalize wy.alloc (.cells #[.int .i64 a, .int .i64 g, .int .i64 s, .int .i64 m, .int .i64 z] 79) = wx at *
     refine oR 7 rfl rfl fun K hK => ?_
     refine xD _ _ 23 rfl base 79 i0 _ 5 40 Tryz.underlying23 hi hz0 hz1 hz2 rfl (by decide) (.slice o4 D.length c4) D.length (yA D) (by go_simp) HRx.out ⟨wy.heap.size, 0, none⟩ 1 1 [.int .i64 a, .int .i64 g, .int .i64 s, .int .i64 m, .int .i64 z] (by go_simp) rfl HNx.out (by intro u hu; simp at hu; rcases hu with rfl | rfl | rfl | rfl | rfl <;> rfl) (by unfold maxLen; omega) (by omega) (by omega) ?_
     intro v' wt hown hgrow hblk
     obtain ⟨o5, c5, rfl, hc5, hn5⟩ := xM hown
     have HB6 : Hid (wt.heap[B]? = some (.cells #[.slice o1 T.length c1, .slice o2 P.length c2, .slice o3 V.length c3, .slice o4 D.length c4] 173)) := yH hgrow HSx.out.1 (fun e => by have := (HRx.out.lt B e.symm).1; omega)
     have HP6 : Hid (wt.heap[w.heap.size]? = some (.cells #[.int .i64 a, .int .i64 g, .int .i64 s, .int .i64 m, .int .i64 z] 79)) := yH hgrow HSx.out.2 (fun e => by have := (HGL.out _ e.symm).2; omega)
     have HL6 := zA (And.intro (HLx.out.1.grown hgrow (fun k hk => (HO.out k hk).1)) (And.intro (HLx.out.2.1.grown hgrow (fun k hk => (HO.out k hk).2.1)) (HLx.out.2.2.grown hgrow (fun k hk => (HO.out k hk).2.2))))
     have HR6 : Hid (wt.ownsRow base 79 5 (.slice o5 (D.length + 1) c5) (D.length + 1) (yA (D ++ [(⟨a, g, s, m, z⟩ : TP)]))) := by
      show World.ownsRow _ _ _ _ _ _ _
      rw [xU]
      exact hown
     have HBt := zA ((HBx.out.mono (show B ≤ w.heap.size by omega)).grown hgrow (by omega) (fun k hk => by have := (HGL.out k hk).1; omega))
     have HOt : Hid (∀ k, (Value.slice o5 (D.length + 1) c5).ownBlock = some k → Off o1 T k ∧ Off o2 P k ∧ Off o3 V k) := by
      intro k hk
      rcases hblk with e | e
      ·rw [e] at hk; exact HO.out k hk
      ·rw [e] at hk
       obtain rfl : wx.heap.size = k := by simpa using hk
       exact ⟨off_ltT HLx.out.1, jI HLx.out.2.1, jH HLx.out.2.2⟩
     have hst : base ≤ wt.heap.size := by have := hgrow.size; omega
     clear hown hgrow hblk HSx HRx HLx HBx HNx
     refine hK _ _ HP6.out ?_
     clear hK K
     have k3 := cell_of_row _ _ 3 _ _ _ HB6.out
     have f3 := frozen_of_row _ _ 3 _ _ HB6.out
     simp at k3
     refine oR 8 rfl rfl fun K hK => ?_
     go_simp
     refine hK _ _ HP6.out ?_
     clear hK K
     refine oR 9 rfl rfl fun K hK => ?_
     go_simp
     refine hK _ _ HP6.out ?_
     clear hK K
     refine oR 10 rfl rfl fun K hK => ?_
     go_simp
     have HB7 := zA (heap_setCell_same wt B 3 _ _ (.slice o5 (D.length + 1) c5) HB6.out)
     have HP7 : Hid ((wt.setCell ⟨B, 3, none⟩ (.slice o5 (D.length + 1) c5)).heap[w.heap.size]? = some (.cells #[.int .i64 a, .int .i64 g, .int .i64 s, .int .i64 m, .int .i64 z] 79)) := by
      show _ = _
      rw [heap_setCell_other _ _ _ _ (by simp; omega)]
      exact HP6.out
     have HL7 := zA (And.intro (HL6.out.1.setS k3 (.slice o5 (D.length + 1) c5)) (And.intro (HL6.out.2.1.setS k3 (.slice o5 (D.length + 1) c5)) (HL6.out.2.2.setS k3 (.slice o5 (D.length + 1) c5))))
     have HR7 := zA (yQ HR6.out (p := ⟨B, 3, none⟩) hBb (.slice o5 (D.length + 1) c5))
     have HB8 := zA (HBt.out.setCell (p := ⟨B, 3, none⟩) (Nat.le_refl _) (.slice o5 (D.length + 1) c5))
     have hst' : base ≤ (wt.setCell ⟨B, 3, none⟩ (.slice o5 (D.length + 1) c5)).heap.size := by rw [World.size_setCell]; exact hst
     refine hK _ _ HP7.out ?_
     clear hK K k3 f3 HB6 HP6 HL6 HR6 HBt
     refine wpAnyH_done (by kernel_rfl) ?_ _
     generalize wt.setCell _ _ = wu at *
     go_wp2_with fail
     go_ret
     exact ⟨⟨rfl, o1, c1, o2, c2, o3, c3, o5, c5, by simpa using HB7.out, xW.of HL7.out.1 HL7.out.2.1 HL7.out.2.2, by simpa using HR7.out, hBb, hst', by simpa using HOt.out, HFr.out, hFb⟩, HB8.out⟩
  ·have h1' : (E == 0) = false := by simpa using h1
   obtain rfl := h2.symm
   obtain rfl := h3.symm
   obtain rfl := h4.symm
   obtain rfl := h5.symm
   have hv' : (v == 3) = false := by simpa using hv
   have h5' : (E == 5) = false := by simpa using h5e
   clear h1 hv h5e
   go_wp2_with fail
   go_ret
   exact ⟨⟨rfl, o1, c1, o2, c2, o3, c3, o4, c4, HSZ.out.1, xW.of HLZ.out.1 HLZ.out.2.1 HLZ.out.2.2, HRZ.out, hBb, Nat.le_trans hbase HBZ.out.size, HO.out, HFr.out, hFb⟩, HBZ.out.mono (by omega)⟩
 ·go_simp
  have hba := (Below.refl wb.heap.size wb).alloc (Nat.le_refl _) (.cells #[.slice none 0 0, .slice none 0 0, .slice none 0 0] 26)
  have hz := heap_alloc_new wb (.cells #[.slice none 0 0, .slice none 0 0, .slice none 0 0] 26)
  rw [hsd] at hz
  have HSX0 := zA (And.intro (zC HBd.out hba) (zC HPd.out hba))
  have HLd0 := zA (HLd.out.below hba)
  have HLw0 := zA (And.intro (HLw.out.1.below hba) (And.intro (HLw.out.2.1.below hba) (HLw.out.2.2.below hba)))
  have HA0 := zA (HAd.out.trans (hba.mono (by omega)))
  have hsz0 : (wb.alloc (.cells #[.slice none 0 0, .slice none 0 0, .slice none 0 0] 26)).heap.size = wb.heap.size + 1 := by simp
  clear hba
  refine hK _ _ HSX0.out ?_
  clear hK K
  generalize wb.alloc (.cells #[.slice none 0 0, .slice none 0 0, .slice none 0 0] 26) = wc at *
  refine oR 5 rfl rfl fun K hK => ?_
  go_simp
  refine (HE.out _ HLd0.out).mono ?_
  rintro e w1 ⟨⟨lv, rfl, hN⟩, hb⟩
  obtain ⟨q1, e1, q2, e2, q3, e3, rfl, hN6⟩ := hN.open6
  have HSX := zA (And.intro (zC HSX0.out.1 hb) (zC HSX0.out.2 hb))
  have HN1 := zA hN6
  have HZ1 := zA (zC hz hb)
  have HLw1 := zA (And.intro (HLw0.out.1.below hb) (And.intro (HLw0.out.2.1.below hb) (HLw0.out.2.2.below hb)))
  have HB1 := zA (HA0.out.trans (hb.mono (by omega)))
  have hs1 := hb.size
  clear hN hN6 hb hz HSX0 HLd0 HLw0 HA0
  refine hK _ _ HSX.out ?_
  clear hK K
  refine yB (fuel := 3) (by kernel_rfl) (fun c d v a w h => by cases d <;> exact h) HSX.out [6, 7, 8, 9] _ _ (by kernel_rfl) ?_
  refine zB (.tuple #[lg q1 q2 q3 X1.length e1 X2.length e2 X3.length e3, .int .i64 v, .int .i64 E]) rfl rfl (fun w' _ => ?_) ?_
  ·go_simp
  refine zB (lg q1 q2 q3 X1.length e1 X2.length e2 X3.length e3) rfl rfl (fun w' _ => ?_) ?_
  ·go_simp
  refine zB (.int .i64 v) rfl rfl (fun w' _ => ?_) ?_
  ·go_simp
  refine zB (.int .i64 E) rfl rfl (fun w' _ => ?_) ?_
  ·go_simp
  refine zE ?_
  have y0 := cell_of_row _ _ 0 _ _ _ HZ1.out
  have y1 := cell_of_row _ _ 1 _ _ _ HZ1.out
  have y2 := cell_of_row _ _ 2 _ _ _ HZ1.out
  have f0 := frozen_of_row _ _ 0 _ _ HZ1.out
  have f1 := frozen_of_row _ _ 1 _ _ HZ1.out
  have f2 := frozen_of_row _ _ 2 _ _ HZ1.out
  simp at y0 y1 y2
  refine oR 11 rfl rfl fun K hK => ?_
  go_simp
  have j0 : w1.cell? ⟨w.heap.size + 1, 0, none⟩ = some (.slice none 0 0) := y0
  have j1 : (w1.setCell ⟨w.heap.size + 1, 0, none⟩ (.slice q1 X1.length e1)).cell? ⟨w.heap.size + 1, 1, none⟩ = some (.slice none 0 0) := by rw [World.cell?_setCell_other _ _ _ _ (by simp)]; exact y1
  have j2 : ((w1.setCell ⟨w.heap.size + 1, 0, none⟩ (.slice q1 X1.length e1)).setCell ⟨w.heap.size + 1, 1, none⟩ (.slice q2 X2.length e2)).cell? ⟨w.heap.size + 1, 2, none⟩ = some (.slice none 0 0) := by rw [World.cell?_setCell_other _ _ _ _ (by simp), World.cell?_setCell_other _ _ _ _ (by simp)]; exact y2
  have HSZ : Hid (((((w1.setCell ⟨w.heap.size + 1, 0, none⟩ (.slice q1 X1.length e1)).setCell ⟨w.heap.size + 1, 1, none⟩ (.slice q2 X2.length e2)).setCell ⟨w.heap.size + 1, 2, none⟩ (.slice q3 X3.length e3))).heap[B]? = some (.cells #[.slice o1 T.length c1, .slice o2 P.length c2, .slice o3 V.length c3, .slice o4 D.length c4] 173) ∧ ((((w1.setCell ⟨w.heap.size + 1, 0, none⟩ (.slice q1 X1.length e1)).setCell ⟨w.heap.size + 1, 1, none⟩ (.slice q2 X2.length e2)).setCell ⟨w.heap.size + 1, 2, none⟩ (.slice q3 X3.length e3))).heap[w.heap.size]? = some (.cells #[.int .i64 a, .int .i64 g, .int .i64 s, .int .i64 m, .int .i64 z] 79)) := by
   refine ⟨?_, ?_⟩
   ·rw [heap_setCell_other _ _ _ _ (by first | (simp; done) | (simp; omega)), heap_setCell_other _ _ _ _ (by first | (simp; done) | (simp; omega)), heap_setCell_other _ _ _ _ (by first | (simp; done) | (simp; omega))]; exact HSX.out.1
   ·rw [heap_setCell_other _ _ _ _ (by first | (simp; done) | (simp; omega)), heap_setCell_other _ _ _ _ (by first | (simp; done) | (simp; omega)), heap_setCell_other _ _ _ _ (by first | (simp; done) | (simp; omega))]; exact HSX.out.2
  have H5 : Hid (((((w1.setCell ⟨w.heap.size + 1, 0, none⟩ (.slice q1 X1.length e1)).setCell ⟨w.heap.size + 1, 1, none⟩ (.slice q2 X2.length e2)).setCell ⟨w.heap.size + 1, 2, none⟩ (.slice q3 X3.length e3))).heap[w.heap.size + 1]? = some (.cells #[.slice q1 X1.length e1, .slice q2 X2.length e2, .slice q3 X3.length e3] 26)) := heap_setCell_same _ _ 2 _ _ _ (heap_setCell_same _ _ 1 _ _ _ (heap_setCell_same _ _ 0 _ _ _ HZ1.out))
  have HNZ := zA (And.intro (((HN1.out.1.setS j0 _).setS j1 _).setS j2 (.slice q3 X3.length e3)) (And.intro (((HN1.out.2.1.setS j0 _).setS j1 _).setS j2 (.slice q3 X3.length e3)) (((HN1.out.2.2.1.setS j0 _).setS j1 _).setS j2 (.slice q3 X3.length e3))))
  have HFZ := zA (And.intro (HN1.out.2.2.2.1.monoB (show wb.heap.size ≤ wc.heap.size by omega)) (And.intro (HN1.out.2.2.2.2.1.monoB (show wb.heap.size ≤ wc.heap.size by omega)) (HN1.out.2.2.2.2.2.monoB (show wb.heap.size ≤ wc.heap.size by omega))))
  have HLZ := zA (And.intro (((HLw1.out.1.setS j0 _).setS j1 _).setS j2 (.slice q3 X3.length e3)) (And.intro (((HLw1.out.2.1.setS j0 _).setS j1 _).setS j2 (.slice q3 X3.length e3)) (((HLw1.out.2.2.setS j0 _).setS j1 _).setS j2 (.slice q3 X3.length e3))))
  have HBZ := zA (((HB1.out.setCell (p := ⟨w.heap.size + 1, 0, none⟩) (by first | (simp; done) | (simp; omega)) (.slice q1 X1.length e1)).setCell (p := ⟨w.heap.size + 1, 1, none⟩) (by first | (simp; done) | (simp; omega)) (.slice q2 X2.length e2)).setCell (p := ⟨w.heap.size + 1, 2, none⟩) (by first | (simp; done) | (simp; omega)) (.slice q3 X3.length e3))
  have HRZ := zA (ownsRow_belowB HR.out HBZ.out)
  refine hK _ _ HSZ.out ?_
  clear hK K HSX HN1 HLw1 HB1 HBd HPd HLd HAd HE HLw y0 y1 y2 f0 f1 f2 j0 j1 j2 HZ1
  generalize ((w1.setCell ⟨w.heap.size + 1, 0, none⟩ (.slice q1 X1.length e1)).setCell ⟨w.heap.size + 1, 1, none⟩ (.slice q2 X2.length e2)).setCell ⟨w.heap.size + 1, 2, none⟩ (.slice q3 X3.length e3) = wz at *
  refine oR 12 rfl rfl fun K hK => ?_
  go_simp
  refine hK _ _ HSZ.out ?_
  clear hK K
  refine oR 13 rfl rfl fun K hK => ?_
  go_simp
  refine hK _ _ HSZ.out ?_
  clear hK K
  refine wpAnyH_done (by kernel_rfl) ?_ _
  have hB5 : B ≠ (w.heap.size + 1) := by omega
  obtain ⟨i0, hi, hz0, hz1, hz2⟩ := info_parts info32
  rcases HW.out with ⟨h1, h2, h3, h4, h5⟩ | ⟨h1, hr, h2, h3, h4, h5⟩ | ⟨h1, hv, h5e, h2, h3, h4, h5⟩
  ·subst h1 h2 h3 h4
   obtain rfl := h5.symm
   obtain ⟨hx1, hx2, hx3⟩ := HX.out
   simp only [if_true] at hx1 hx2 hx3
   obtain rfl := hx1.symm
   subst hx2 hx3
   have k51 := cell_of_row _ _ 1 _ _ _ H5.out
   have k52 := cell_of_row _ _ 2 _ _ _ H5.out
   have kB1 := cell_of_row _ _ 1 _ _ _ HSZ.out.1
   have kB2 := cell_of_row _ _ 2 _ _ _ HSZ.out.1
   have fB1 := frozen_of_row _ _ 1 _ _ HSZ.out.1
   have fB2 := frozen_of_row _ _ 2 _ _ HSZ.out.1
   simp at k51 k52 kB1 kB2
   go_wp2_with fail
   go_region
   go_wp2_with fail
   have kB2' : (wz.setCell ⟨B, 1, none⟩ (.slice q2 (P ++ [(⟨a, g, s, m, z⟩ : TP)]).length e2)).cell? ⟨B, 2, none⟩ = some (.slice o3 V.length c3) := by rw [World.cell?_setCell_other _ _ _ _ (by simp)]; exact kB2
   have hW := heap_setCell_same _ B 2 _ _ (.slice q3 (V ++ [v]).length e3) (heap_setCell_same wz B 1 _ _ (.slice q2 (P ++ [(⟨a, g, s, m, z⟩ : TP)]).length e2) HSZ.out.1)
   have hT1 := (HLZ.out.1.setS kB1 (.slice q2 (P ++ [(⟨a, g, s, m, z⟩ : TP)]).length e2)).setS kB2' (.slice q3 (V ++ [v]).length e3)
   have hP1 := (HNZ.out.2.1.setS kB1 (.slice q2 (P ++ [(⟨a, g, s, m, z⟩ : TP)]).length e2)).setS kB2' (.slice q3 (V ++ [v]).length e3)
   have hV1 := (HNZ.out.2.2.setS kB1 (.slice q2 (P ++ [(⟨a, g, s, m, z⟩ : TP)]).length e2)).setS kB2' (.slice q3 (V ++ [v]).length e3)
   have hR1 := yQ (yQ HRZ.out (p := ⟨B, 1, none⟩) hBb (.slice q2 (P ++ [(⟨a, g, s, m, z⟩ : TP)]).length e2)) (p := ⟨B, 2, none⟩) hBb (.slice q3 (V ++ [v]).length e3)
   have hZ1 := ((HBZ.out.mono (show B ≤ w.heap.size by omega)).setCell (p := ⟨B, 1, none⟩) (Nat.le_refl _) (.slice q2 (P ++ [(⟨a, g, s, m, z⟩ : TP)]).length e2)).setCell (p := ⟨B, 2, none⟩) (Nat.le_refl _) (.slice q3 (V ++ [v]).length e3)
   have hs1 : base ≤ ((wz.setCell ⟨B, 1, none⟩ (.slice q2 (P ++ [(⟨a, g, s, m, z⟩ : TP)]).length e2)).setCell ⟨B, 2, none⟩ (.slice q3 (V ++ [v]).length e3)).heap.size := by rw [World.size_setCell, World.size_setCell]; exact Nat.le_trans hbase HBZ.out.size
   have hof : ∀ k, (Value.slice o4 D.length c4).ownBlock = some k → Off o1 T k ∧ Off q2 (P ++ [(⟨a, g, s, m, z⟩ : TP)]) k ∧ Off q3 (V ++ [v]) k := fun k hk => ⟨(HO.out k hk).1, zQ HFZ.out.2.1 (by have := (HGL.out k hk).2; omega), zQ HFZ.out.2.2 (by have := (HGL.out k hk).2; omega)⟩
   rw [show (P ++ [(⟨a, g, s, m, z⟩ : TP)]).length = P.length + 1 by simp] at hW hT1 hP1 hV1 hR1 hZ1 hs1
   rw [show (V ++ [v]).length = V.length + 1 by simp] at hW hT1 hP1 hV1 hR1 hZ1 hs1
   clear kB2' kB1 kB2 fB1 fB2 k51 k52 HSZ HLZ HNZ HRZ HBZ H5
   generalize (wz.setCell ⟨B, 1, none⟩ (.slice q2 (P.length + 1) e2)).setCell ⟨B, 2, none⟩ (.slice q3 (V.length + 1) e3) = wu at *
   have hdr := (Below.refl wu.heap.size wu).drew
   go_ret
   exact ⟨⟨rfl, o1, c1, q2, e2, q3, e3, o4, c4, by simpa using zC hW hdr, xW.of (hT1.below hdr) (by simpa using hP1.below hdr) (by simpa using hV1.below hdr), zF hR1 hdr, hBb, hs1, hof, ⟨HFr.out.1, HFZ.out.2.1.monoB (by omega), HFZ.out.2.2.monoB (by omega)⟩, hFb⟩, hZ1.drew⟩
  ·have h1' : (E == 0) = false := by simpa using h1
   subst h2 h5
   obtain rfl := h3.symm
   obtain rfl := h4.symm
   rcases hr with hr | ⟨hr, hr2⟩
   ·have hr' : (v == 3) = true := by simpa using hr
    clear h1 hr
    go_wp2_with fail
    refine zJ (fun w' => w'.heap[w.heap.size]? = some (.cells #[.int .i64 a, .int .i64 g, .int .i64 s, .int .i64 m, .int .i64 z] 79)) [0, 1, 2, 3, 5] 6 (by rfl) (by kernel_rfl) (by kernel_rfl) (by kernel_rfl) (fun c d v a w h => by cases d <;> exact h) ?_ ?_
    ·exact zC HSZ.out.2 (Below.refl _ _).drew
    refine zB (.pointer (some ⟨B, 0, none⟩)) rfl rfl (fun w' _ => ?_) ?_
    ·go_simp
    refine zB (.pointer (some ⟨B, 0, none⟩)) rfl rfl (fun w' _ => ?_) ?_
    ·go_simp
    refine zB (.pointer (some ⟨B, 0, none⟩)) rfl rfl (fun w' _ => ?_) ?_
    ·go_simp
    refine zB (.pointer (some ⟨B, 3, none⟩)) rfl rfl (fun w' _ => ?_) ?_
    ·go_simp
    refine zB (tp a g s m z) rfl rfl (fun w' hS => ?_) ?_
    ·have k0 := cell_of_row _ _ 0 _ _ _ hS
     have k1 := cell_of_row _ _ 1 _ _ _ hS
     have k2 := cell_of_row _ _ 2 _ _ _ hS
     have k3 := cell_of_row _ _ 3 _ _ _ hS
     have k4 := cell_of_row _ _ 4 _ _ _ hS
     simp at k0 k1 k2 k3 k4
     go_simp
    refine zE ?_
    have hdr := (Below.refl wz.heap.size wz).drew
    have HSy := zA (And.intro (zC HSZ.out.1 hdr) (zC HSZ.out.2 hdr))
    have HLy := zA (And.intro (HLZ.out.1.below hdr) (And.intro (HLZ.out.2.1.below hdr) (HLZ.out.2.2.below hdr)))
    have HRy := zA (zF HRZ.out hdr)
    have HBy := zA HBZ.out.drew
    clear hdr HSZ HLZ HRZ HBZ H5 HNZ HFZ HX
    generalize World.drew _ = wy at *
    have hwy := HBy.out.size
    have hall := (Below.refl wy.heap.size wy).alloc (Nat.le_refl _) (.cells #[.int .i64 a, .int .i64 g, .int .i64 s, .int .i64 m, .int .i64 z] 79)
    have HSx := zA (And.intro (zC HSy.out.1 hall) (zC HSy.out.2 hall))
    have HLx := zA (And.intro (HLy.out.1.below hall) (And.intro (HLy.out.2.1.below hall) (HLy.out.2.2.below hall)))
    have HRx := zA (zF HRy.out hall)
    have HBx := zA (HBy.out.trans (hall.mono hwy))
    have HNx := zA (five_newB wy a g s m z 79)
    have hsx : (wy.alloc (.cells #[.int .i64 a, .int .i64 g, .int .i64 s, .int .i64 m, .int .i64 z] 79)).heap.size = wy.heap.size + 1 := by simp
    have k3y := cell_of_row _ _ 3 _ _ _ HSy.out.1
    have k3x := cell_of_row _ _ 3 _ _ _ HSx.out.1
    simp at k3y k3x
    clear hall
    refine zT (i := 4) (j := 6) (by kernel_rfl) rfl rfl rfl rfl (fun K hK => ?_) (fun K hK => ?_)
    ·go_simp
     refine hK _ _ HSy.out.2 ?_
     clear hK K
     refine oR 6 rfl rfl fun K hK => ?_
     go_simp
     refine hK _ _ HSx.out.2 ?_
     clear hK K k3y k3x HSy HLy HRy HBy
     generalize wy.alloc (.cells #[.int .i64 a, .int .i64 g, .int .i64 s, .int .i64 m, .int .i64 z] 79) = wx at *
     refine oR 7 rfl rfl fun K hK => ?_
     refine xD _ _ 23 rfl base 79 i0 _ 5 40 Tryz.underlying23 hi hz0 hz1 hz2 rfl (by decide) (.slice o4 D.length c4) D.length (yA D) (by go_simp) HRx.out ⟨wy.heap.size, 0, none⟩ 1 1 [.int .i64 a, .int .i64 g, .int .i64 s, .int .i64 m, .int .i64 z] (by go_simp) rfl HNx.out (by intro u hu; simp at hu; rcases hu with rfl | rfl | rfl | rfl | rfl <;> rfl) (by unfold maxLen; omega) (by omega) (by omega) ?_
     intro v' wt hown hgrow hblk
     obtain ⟨o5, c5, rfl, hc5, hn5⟩ := xM hown
     have HB6 : Hid (wt.heap[B]? = some (.cells #[.slice o1 T.length c1, .slice o2 P.length c2, .slice o3 V.length c3, .slice o4 D.length c4] 173)) := yH hgrow HSx.out.1 (fun e => by have := (HRx.out.lt B e.symm).1; omega)
     have HP6 : Hid (wt.heap[w.heap.size]? = some (.cells #[.int .i64 a, .int .i64 g, .int .i64 s, .int .i64 m, .int .i64 z] 79)) := yH hgrow HSx.out.2 (fun e => by have := (HGL.out _ e.symm).2; omega)
     have HL6 := zA (And.intro (HLx.out.1.grown hgrow (fun k hk => (HO.out k hk).1)) (And.intro (HLx.out.2.1.grown hgrow (fun k hk => (HO.out k hk).2.1)) (HLx.out.2.2.grown hgrow (fun k hk => (HO.out k hk).2.2))))
     have HR6 : Hid (wt.ownsRow base 79 5 (.slice o5 (D.length + 1) c5) (D.length + 1) (yA (D ++ [(⟨a, g, s, m, z⟩ : TP)]))) := by
      show World.ownsRow _ _ _ _ _ _ _
      rw [xU]
      exact hown
     have HBt := zA ((HBx.out.mono (show B ≤ w.heap.size by omega)).grown hgrow (by omega) (fun k hk => by have := (HGL.out k hk).1; omega))
     have HOt : Hid (∀ k, (Value.slice o5 (D.length + 1) c5).ownBlock = some k → Off o1 T k ∧ Off o2 P k ∧ Off o3 V k) := by
      intro k hk
      rcases hblk with e | e
      ·rw [e] at hk; exact HO.out k hk
      ·rw [e] at hk
       obtain rfl : wx.heap.size = k := by simpa using hk
       exact ⟨off_ltT HLx.out.1, jI HLx.out.2.1, jH HLx.out.2.2⟩
     have hst : base ≤ wt.heap.size := by have := hgrow.size; omega
     clear hown hgrow hblk HSx HRx HLx HBx HNx
     refine hK _ _ HP6.out ?_
     clear hK K
     have k3 := cell_of_row _ _ 3 _ _ _ HB6.out
     have f3 := frozen_of_row _ _ 3 _ _ HB6.out
     simp at k3
     refine oR 8 rfl rfl fun K hK => ?_
     go_simp
     refine hK _ _ HP6.out ?_
     clear hK K
     refine oR 9 rfl rfl fun K hK => ?_
     go_simp
     refine hK _ _ HP6.out ?_
     clear hK K
     refine oR 10 rfl rfl fun K hK => ?_
     go_simp
     have HB7 := zA (heap_setCell_same wt B 3 _ _ (.slice o5 (D.length + 1) c5) HB6.out)
     have HP7 : Hid ((wt.setCell ⟨B, 3, none⟩ (.slice o5 (D.length + 1) c5)).heap[w.heap.size]? = some (.cells #[.int .i64 a, .int .i64 g, .int .i64 s, .int .i64 m, .int .i64 z] 79)) := by
      show _ = _
      rw [heap_setCell_other _ _ _ _ (by simp; omega)]
      exact HP6.out
     have HL7 := zA (And.intro (HL6.out.1.setS k3 (.slice o5 (D.length + 1) c5)) (And.intro (HL6.out.2.1.setS k3 (.slice o5 (D.length + 1) c5)) (HL6.out.2.2.setS k3 (.slice o5 (D.length + 1) c5))))
     have HR7 := zA (yQ HR6.out (p := ⟨B, 3, none⟩) hBb (.slice o5 (D.length + 1) c5))
     have HB8 := zA (HBt.out.setCell (p := ⟨B, 3, none⟩) (Nat.le_refl _) (.slice o5 (D.length + 1) c5))
     have hst' : base ≤ (wt.setCell ⟨B, 3, none⟩ (.slice o5 (D.length + 1) c5)).heap.size := by rw [World.size_setCell]; exact hst
     refine hK _ _ HP7.out ?_
     clear hK K k3 f3 HB6 HP6 HL6 HR6 HBt
     refine wpAnyH_done (by kernel_rfl) ?_ _
     generalize wt.setCell _ _ = wu at *
     go_wp2_with fail
     go_ret
     exact ⟨⟨rfl, o1, c1, o2, c2, o3, c3, o5, c5, by simpa using HB7.out, xW.of HL7.out.1 HL7.out.2.1 HL7.out.2.2, by simpa using HR7.out, hBb, hst', by simpa using HOt.out, HFr.out, hFb⟩, HB8.out⟩
    ·go_simp
     refine hK _ _ HSx.out.2 ?_
     clear hK K
     refine oR 4 rfl rfl fun K hK => ?_
     go_simp
     refine hK _ _ HSx.out.2 ?_
     clear hK K k3y k3x HSy HLy HRy HBy
     generalize wy.alloc (.cells #[.int .i64 a, .int .i64 g, .int .i64 s, .int .i64 m, .int .i64 z] 79) = wx at *
     refine oR 7 rfl rfl fun K hK => ?_
     refine xD _ _ 23 rfl base 79 i0 _ 5 40 Tryz.underlying23 hi hz0 hz1 hz2 rfl (by decide) (.slice o4 D.length c4) D.length (yA D) (by go_simp) HRx.out ⟨wy.heap.size, 0, none⟩ 1 1 [.int .i64 a, .int .i64 g, .int .i64 s, .int .i64 m, .int .i64 z] (by go_simp) rfl HNx.out (by intro u hu; simp at hu; rcases hu with rfl | rfl | rfl | rfl | rfl <;> rfl) (by unfold maxLen; omega) (by omega) (by omega) ?_
     intro v' wt hown hgrow hblk
     obtain ⟨o5, c5, rfl, hc5, hn5⟩ := xM hown
     have HB6 : Hid (wt.heap[B]? = some (.cells #[.slice o1 T.length c1, .slice o2 P.length c2, .slice o3 V.length c3, .slice o4 D.length c4] 173)) := yH hgrow HSx.out.1 (fun e => by have := (HRx.out.lt B e.symm).1; omega)
     have HP6 : Hid (wt.heap[w.heap.size]? = some (.cells #[.int .i64 a, .int .i64 g, .int .i64 s, .int .i64 m, .int .i64 z] 79)) := yH hgrow HSx.out.2 (fun e => by have := (HGL.out _ e.symm).2; omega)
     have HL6 := zA (And.intro (HLx.out.1.grown hgrow (fun k hk => (HO.out k hk).1)) (And.intro (HLx.out.2.1.grown hgrow (fun k hk => (HO.out k hk).2.1)) (HLx.out.2.2.grown hgrow (fun k hk => (HO.out k hk).2.2))))
     have HR6 : Hid (wt.ownsRow base 79 5 (.slice o5 (D.length + 1) c5) (D.length + 1) (yA (D ++ [(⟨a, g, s, m, z⟩ : TP)]))) := by
      show World.ownsRow _ _ _ _ _ _ _
      rw [xU]
      exact hown
     have HBt := zA ((HBx.out.mono (show B ≤ w.heap.size by omega)).grown hgrow (by omega) (fun k hk => by have := (HGL.out k hk).1; omega))
     have HOt : Hid (∀ k, (Value.slice o5 (D.length + 1) c5).ownBlock = some k → Off o1 T k ∧ Off o2 P k ∧ Off o3 V k) := by
      intro k hk
      rcases hblk with e | e
      ·rw [e] at hk; exact HO.out k hk
      ·rw [e] at hk
       obtain rfl : wx.heap.size = k := by simpa using hk
       exact ⟨off_ltT HLx.out.1, jI HLx.out.2.1, jH HLx.out.2.2⟩
     have hst : base ≤ wt.heap.size := by have := hgrow.size; omega
     clear hown hgrow hblk HSx HRx HLx HBx HNx
     refine hK _ _ HP6.out ?_
     clear hK K
     have k3 := cell_of_row _ _ 3 _ _ _ HB6.out
     have f3 := frozen_of_row _ _ 3 _ _ HB6.out
     simp at k3
     refine oR 8 rfl rfl fun K hK => ?_
     go_simp
     refine hK _ _ HP6.out ?_
     clear hK K
     refine oR 9 rfl rfl fun K hK => ?_
     go_simp
     refine hK _ _ HP6.out ?_
     clear hK K
     refine oR 10 rfl rfl fun K hK => ?_
     go_simp
     have HB7 := zA (heap_setCell_same wt B 3 _ _ (.slice o5 (D.length + 1) c5) HB6.out)
     have HP7 : Hid ((wt.setCell ⟨B, 3, none⟩ (.slice o5 (D.length + 1) c5)).heap[w.heap.size]? = some (.cells #[.int .i64 a, .int .i64 g, .int .i64 s, .int .i64 m, .int .i64 z] 79)) := by
      show _ = _
      rw [heap_setCell_other _ _ _ _ (by simp; omega)]
      exact HP6.out
     have HL7 := zA (And.intro (HL6.out.1.setS k3 (.slice o5 (D.length + 1) c5)) (And.intro (HL6.out.2.1.setS k3 (.slice o5 (D.length + 1) c5)) (HL6.out.2.2.setS k3 (.slice o5 (D.length + 1) c5))))
     have HR7 := zA (yQ HR6.out (p := ⟨B, 3, none⟩) hBb (.slice o5 (D.length + 1) c5))
     have HB8 := zA (HBt.out.setCell (p := ⟨B, 3, none⟩) (Nat.le_refl _) (.slice o5 (D.length + 1) c5))
     have hst' : base ≤ (wt.setCell ⟨B, 3, none⟩ (.slice o5 (D.length + 1) c5)).heap.size := by rw [World.size_setCell]; exact hst
     refine hK _ _ HP7.out ?_
     clear hK K k3 f3 HB6 HP6 HL6 HR6 HBt
     refine wpAnyH_done (by kernel_rfl) ?_ _
     generalize wt.setCell _ _ = wu at *
     go_wp2_with fail
     go_ret
     exact ⟨⟨rfl, o1, c1, o2, c2, o3, c3, o5, c5, by simpa using HB7.out, xW.of HL7.out.1 HL7.out.2.1 HL7.out.2.2, by simpa using HR7.out, hBb, hst', by simpa using HOt.out, HFr.out, hFb⟩, HB8.out⟩
   ·have hr' : (v == 3) = false := by simpa using hr
    have hr2' : (E == 5) = true := by simpa using hr2
    clear h1 hr hr2
    go_wp2_with fail
    refine zJ (fun w' => w'.heap[w.heap.size]? = some (.cells #[.int .i64 a, .int .i64 g, .int .i64 s, .int .i64 m, .int .i64 z] 79)) [0, 1, 2, 3, 5] 6 (by rfl) (by kernel_rfl) (by kernel_rfl) (by kernel_rfl) (fun c d v a w h => by cases d <;> exact h) ?_ ?_
    ·exact zC HSZ.out.2 (Below.refl _ _).drew
    refine zB (.pointer (some ⟨B, 0, none⟩)) rfl rfl (fun w' _ => ?_) ?_
    ·go_simp
    refine zB (.pointer (some ⟨B, 0, none⟩)) rfl rfl (fun w' _ => ?_) ?_
    ·go_simp
    refine zB (.pointer (some ⟨B, 0, none⟩)) rfl rfl (fun w' _ => ?_) ?_
    ·go_simp
    refine zB (.pointer (some ⟨B, 3, none⟩)) rfl rfl (fun w' _ => ?_) ?_
    ·go_simp
    refine zB (tp a g s m z) rfl rfl (fun w' hS => ?_) ?_
    ·have k0 := cell_of_row _ _ 0 _ _ _ hS
     have k1 := cell_of_row _ _ 1 _ _ _ hS
     have k2 := cell_of_row _ _ 2 _ _ _ hS
     have k3 := cell_of_row _ _ 3 _ _ _ hS
     have k4 := cell_of_row _ _ 4 _ _ _ hS
     simp at k0 k1 k2 k3 k4
     go_simp
    refine zE ?_
    have hdr := (Below.refl wz.heap.size wz).drew
    have HSy := zA (And.intro (zC HSZ.out.1 hdr) (zC HSZ.out.2 hdr))
    have HLy := zA (And.intro (HLZ.out.1.below hdr) (And.intro (HLZ.out.2.1.below hdr) (HLZ.out.2.2.below hdr)))
    have HRy := zA (zF HRZ.out hdr)
    have HBy := zA HBZ.out.drew
    clear hdr HSZ HLZ HRZ HBZ H5 HNZ HFZ HX
    generalize World.drew _ = wy at *
    have hwy := HBy.out.size
    have hall := (Below.refl wy.heap.size wy).alloc (Nat.le_refl _) (.cells #[.int .i64 a, .int .i64 g, .int .i64 s, .int .i64 m, .int .i64 z] 79)
    have HSx := zA (And.intro (zC HSy.out.1 hall) (zC HSy.out.2 hall))
    have HLx := zA (And.intro (HLy.out.1.below hall) (And.intro (HLy.out.2.1.below hall) (HLy.out.2.2.below hall)))
    have HRx := zA (zF HRy.out hall)
    have HBx := zA (HBy.out.trans (hall.mono hwy))
    have HNx := zA (five_newB wy a g s m z 79)
    have hsx : (wy.alloc (.cells #[.int .i64 a, .int .i64 g, .int .i64 s, .int .i64 m, .int .i64 z] 79)).heap.size = wy.heap.size + 1 := by simp
    have k3y := cell_of_row _ _ 3 _ _ _ HSy.out.1
    have k3x := cell_of_row _ _ 3 _ _ _ HSx.out.1
    simp at k3y k3x
    clear hall
    refine zT (i := 4) (j := 6) (by kernel_rfl) rfl rfl rfl rfl (fun K hK => ?_) (fun K hK => ?_)
    ·go_simp
     refine hK _ _ HSy.out.2 ?_
     clear hK K
     refine oR 6 rfl rfl fun K hK => ?_
     go_simp
     refine hK _ _ HSx.out.2 ?_
     clear hK K k3y k3x HSy HLy HRy HBy
     generalize wy.alloc (.cells #[.int .i64 a, .int .i64 g, .int .i64 s, .int .i64 m, .int .i64 z] 79) = wx at *
     refine oR 7 rfl rfl fun K hK => ?_
     refine xD _ _ 23 rfl base 79 i0 _ 5 40 Tryz.underlying23 hi hz0 hz1 hz2 rfl (by decide) (.slice o4 D.length c4) D.length (yA D) (by go_simp) HRx.out ⟨wy.heap.size, 0, none⟩ 1 1 [.int .i64 a, .int .i64 g, .int .i64 s, .int .i64 m, .int .i64 z] (by go_simp) rfl HNx.out (by intro u hu; simp at hu; rcases hu with rfl | rfl | rfl | rfl | rfl <;> rfl) (by unfold maxLen; omega) (by omega) (by omega) ?_
     intro v' wt hown hgrow hblk
     obtain ⟨o5, c5, rfl, hc5, hn5⟩ := xM hown
     have HB6 : Hid (wt.heap[B]? = some (.cells #[.slice o1 T.length c1, .slice o2 P.length c2, .slice o3 V.length c3, .slice o4 D.length c4] 173)) := yH hgrow HSx.out.1 (fun e => by have := (HRx.out.lt B e.symm).1; omega)
     have HP6 : Hid (wt.heap[w.heap.size]? = some (.cells #[.int .i64 a, .int .i64 g, .int .i64 s, .int .i64 m, .int .i64 z] 79)) := yH hgrow HSx.out.2 (fun e => by have := (HGL.out _ e.symm).2; omega)
     have HL6 := zA (And.intro (HLx.out.1.grown hgrow (fun k hk => (HO.out k hk).1)) (And.intro (HLx.out.2.1.grown hgrow (fun k hk => (HO.out k hk).2.1)) (HLx.out.2.2.grown hgrow (fun k hk => (HO.out k hk).2.2))))
     have HR6 : Hid (wt.ownsRow base 79 5 (.slice o5 (D.length + 1) c5) (D.length + 1) (yA (D ++ [(⟨a, g, s, m, z⟩ : TP)]))) := by
      show World.ownsRow _ _ _ _ _ _ _
      rw [xU]
      exact hown
     have HBt := zA ((HBx.out.mono (show B ≤ w.heap.size by omega)).grown hgrow (by omega) (fun k hk => by have := (HGL.out k hk).1; omega))
     have HOt : Hid (∀ k, (Value.slice o5 (D.length + 1) c5).ownBlock = some k → Off o1 T k ∧ Off o2 P k ∧ Off o3 V k) := by
      intro k hk
      rcases hblk with e | e
      ·rw [e] at hk; exact HO.out k hk
      ·rw [e] at hk
       obtain rfl : wx.heap.size = k := by simpa using hk
       exact ⟨off_ltT HLx.out.1, jI HLx.out.2.1, jH HLx.out.2.2⟩
     have hst : base ≤ wt.heap.size := by have := hgrow.size; omega
     clear hown hgrow hblk HSx HRx HLx HBx HNx
     refine hK _ _ HP6.out ?_
     clear hK K
     have k3 := cell_of_row _ _ 3 _ _ _ HB6.out
     have f3 := frozen_of_row _ _ 3 _ _ HB6.out
     simp at k3
     refine oR 8 rfl rfl fun K hK => ?_
     go_simp
     refine hK _ _ HP6.out ?_
     clear hK K
     refine oR 9 rfl rfl fun K hK => ?_
     go_simp
     refine hK _ _ HP6.out ?_
     clear hK K
     refine oR 10 rfl rfl fun K hK => ?_
     go_simp
     have HB7 := zA (heap_setCell_same wt B 3 _ _ (.slice o5 (D.length + 1) c5) HB6.out)
     have HP7 : Hid ((wt.setCell ⟨B, 3, none⟩ (.slice o5 (D.length + 1) c5)).heap[w.heap.size]? = some (.cells #[.int .i64 a, .int .i64 g, .int .i64 s, .int .i64 m, .int .i64 z] 79)) := by
      show _ = _
      rw [heap_setCell_other _ _ _ _ (by simp; omega)]
      exact HP6.out
     have HL7 := zA (And.intro (HL6.out.1.setS k3 (.slice o5 (D.length + 1) c5)) (And.intro (HL6.out.2.1.setS k3 (.slice o5 (D.length + 1) c5)) (HL6.out.2.2.setS k3 (.slice o5 (D.length + 1) c5))))
     have HR7 := zA (yQ HR6.out (p := ⟨B, 3, none⟩) hBb (.slice o5 (D.length + 1) c5))
     have HB8 := zA (HBt.out.setCell (p := ⟨B, 3, none⟩) (Nat.le_refl _) (.slice o5 (D.length + 1) c5))
     have hst' : base ≤ (wt.setCell ⟨B, 3, none⟩ (.slice o5 (D.length + 1) c5)).heap.size := by rw [World.size_setCell]; exact hst
     refine hK _ _ HP7.out ?_
     clear hK K k3 f3 HB6 HP6 HL6 HR6 HBt
     refine wpAnyH_done (by kernel_rfl) ?_ _
     generalize wt.setCell _ _ = wu at *
     go_wp2_with fail
     go_ret
     exact ⟨⟨rfl, o1, c1, o2, c2, o3, c3, o5, c5, by simpa using HB7.out, xW.of HL7.out.1 HL7.out.2.1 HL7.out.2.2, by simpa using HR7.out, hBb, hst', by simpa using HOt.out, HFr.out, hFb⟩, HB8.out⟩
    ·go_simp
     refine hK _ _ HSx.out.2 ?_
     clear hK K
     refine oR 4 rfl rfl fun K hK => ?_
     go_simp
     refine hK _ _ HSx.out.2 ?_
     clear hK K k3y k3x HSy HLy HRy HBy
     generalize wy.alloc (.cells #[.int .i64 a, .int .i64 g, .int .i64 s, .int .i64 m, .int .i64 z] 79) = wx at *
     refine oR 7 rfl rfl fun K hK => ?_
     refine xD _ _ 23 rfl base 79 i0 _ 5 40 Tryz.underlying23 hi hz0 hz1 hz2 rfl (by decide) (.slice o4 D.length c4) D.length (yA D) (by go_simp) HRx.out ⟨wy.heap.size, 0, none⟩ 1 1 [.int .i64 a, .int .i64 g, .int .i64 s, .int .i64 m, .int .i64 z] (by go_simp) rfl HNx.out (by intro u hu; simp at hu; rcases hu with rfl | rfl | rfl | rfl | rfl <;> rfl) (by unfold maxLen; omega) (by omega) (by omega) ?_
     intro v' wt hown hgrow hblk
     obtain ⟨o5, c5, rfl, hc5, hn5⟩ := xM hown
     have HB6 : Hid (wt.heap[B]? = some (.cells #[.slice o1 T.length c1, .slice o2 P.length c2, .slice o3 V.length c3, .slice o4 D.length c4] 173)) := yH hgrow HSx.out.1 (fun e => by have := (HRx.out.lt B e.symm).1; omega)
     have HP6 : Hid (wt.heap[w.heap.size]? = some (.cells #[.int .i64 a, .int .i64 g, .int .i64 s, .int .i64 m, .int .i64 z] 79)) := yH hgrow HSx.out.2 (fun e => by have := (HGL.out _ e.symm).2; omega)
     have HL6 := zA (And.intro (HLx.out.1.grown hgrow (fun k hk => (HO.out k hk).1)) (And.intro (HLx.out.2.1.grown hgrow (fun k hk => (HO.out k hk).2.1)) (HLx.out.2.2.grown hgrow (fun k hk => (HO.out k hk).2.2))))
     have HR6 : Hid (wt.ownsRow base 79 5 (.slice o5 (D.length + 1) c5) (D.length + 1) (yA (D ++ [(⟨a, g, s, m, z⟩ : TP)]))) := by
      show World.ownsRow _ _ _ _ _ _ _
      rw [xU]
      exact hown
     have HBt := zA ((HBx.out.mono (show B ≤ w.heap.size by omega)).grown hgrow (by omega) (fun k hk => by have := (HGL.out k hk).1; omega))
     have HOt : Hid (∀ k, (Value.slice o5 (D.length + 1) c5).ownBlock = some k → Off o1 T k ∧ Off o2 P k ∧ Off o3 V k) := by
      intro k hk
      rcases hblk with e | e
      ·rw [e] at hk; exact HO.out k hk
      ·rw [e] at hk
       obtain rfl : wx.heap.size = k := by simpa using hk
       exact ⟨off_ltT HLx.out.1, jI HLx.out.2.1, jH HLx.out.2.2⟩
     have hst : base ≤ wt.heap.size := by have := hgrow.size; omega
     clear hown hgrow hblk HSx HRx HLx HBx HNx
     refine hK _ _ HP6.out ?_
     clear hK K
     have k3 := cell_of_row _ _ 3 _ _ _ HB6.out
     have f3 := frozen_of_row _ _ 3 _ _ HB6.out
     simp at k3
     refine oR 8 rfl rfl fun K hK => ?_
     go_simp
     refine hK _ _ HP6.out ?_
     clear hK K
     refine oR 9 rfl rfl fun K hK => ?_
     go_simp
     refine hK _ _ HP6.out ?_
     clear hK K
     refine oR 10 rfl rfl fun K hK => ?_
     go_simp
     have HB7 := zA (heap_setCell_same wt B 3 _ _ (.slice o5 (D.length + 1) c5) HB6.out)
     have HP7 : Hid ((wt.setCell ⟨B, 3, none⟩ (.slice o5 (D.length + 1) c5)).heap[w.heap.size]? = some (.cells #[.int .i64 a, .int .i64 g, .int .i64 s, .int .i64 m, .int .i64 z] 79)) := by
      show _ = _
      rw [heap_setCell_other _ _ _ _ (by simp; omega)]
      exact HP6.out
     have HL7 := zA (And.intro (HL6.out.1.setS k3 (.slice o5 (D.length + 1) c5)) (And.intro (HL6.out.2.1.setS k3 (.slice o5 (D.length + 1) c5)) (HL6.out.2.2.setS k3 (.slice o5 (D.length + 1) c5))))
     have HR7 := zA (yQ HR6.out (p := ⟨B, 3, none⟩) hBb (.slice o5 (D.length + 1) c5))
     have HB8 := zA (HBt.out.setCell (p := ⟨B, 3, none⟩) (Nat.le_refl _) (.slice o5 (D.length + 1) c5))
     have hst' : base ≤ (wt.setCell ⟨B, 3, none⟩ (.slice o5 (D.length + 1) c5)).heap.size := by rw [World.size_setCell]; exact hst
     refine hK _ _ HP7.out ?_
     clear hK K k3 f3 HB6 HP6 HL6 HR6 HBt
     refine wpAnyH_done (by kernel_rfl) ?_ _
     generalize wt.setCell _ _ = wu at *
     go_wp2_with fail
     go_ret
     exact ⟨⟨rfl, o1, c1, o2, c2, o3, c3, o5, c5, by simpa using HB7.out, xW.of HL7.out.1 HL7.out.2.1 HL7.out.2.2, by simpa using HR7.out, hBb, hst', by simpa using HOt.out, HFr.out, hFb⟩, HB8.out⟩
  ·have h1' : (E == 0) = false := by simpa using h1
   obtain rfl := h2.symm
   obtain rfl := h3.symm
   obtain rfl := h4.symm
   obtain rfl := h5.symm
   have hv' : (v == 3) = false := by simpa using hv
   have h5' : (E == 5) = false := by simpa using h5e
   clear h1 hv h5e
   go_wp2_with fail
   go_ret
   exact ⟨⟨rfl, o1, c1, o2, c2, o3, c3, o4, c4, HSZ.out.1, xW.of HLZ.out.1 HLZ.out.2.1 HLZ.out.2.2, HRZ.out, hBb, Nat.le_trans hbase HBZ.out.size, HO.out, HFr.out, hFb⟩, HBZ.out.mono (by omega)⟩
end
section
open Go.RowKit
theorem grownBy_set (w : World) (p : Addr) (u : Value) : w.grownBy (w.setCell p u) (some p.block) :=
 ⟨rfl, rfl, rfl, by simp, fun k _ hk => heap_setCell_other w p k u (fun e => hk (by simp [e]))⟩
theorem yJ.setO {w : World} {o : Option Addr} {n c : Nat} {L : List TK} (h : yJ w (.slice o n c) L) {p : Addr} (ho : Off o L p.block) (u : Value) : yJ (w.setCell p u) (.slice o n c) L :=
 h.grown (grownBy_set w p u) (fun g hg => by cases hg; exact ho)
theorem zR.setO {w : World} {o : Option Addr} {n c : Nat} {L : List TP} (h : zR w (.slice o n c) L) {p : Addr} (ho : Off o L p.block) (u : Value) : zR (w.setCell p u) (.slice o n c) L :=
 h.grown (grownBy_set w p u) (fun g hg => by cases hg; exact ho)
theorem zP.setO {w : World} {o : Option Addr} {n c : Nat} {L : List Int} (h : zP w (.slice o n c) L) {p : Addr} (ho : Off o L p.block) (u : Value) : zP (w.setCell p u) (.slice o n c) L :=
 h.grown (grownBy_set w p u) (fun g hg => by cases hg; exact ho)
theorem qK.grown {w w' : World} {o : Option Addr} {n c : Nat} {L : List VW} {r : Option Nat} (h : qK w (.slice o n c) L) (hg : w.grownBy w' r) (ho : ∀ g, r = some g → Off o L g) : qK w' (.slice o n c) L := by
 obtain ⟨rfl, h1, h2⟩ := h.eqs
 refine ⟨o, c, rfl, fun i p hi => ?_, h2⟩
 obtain ⟨b, hb, c0, c1, c2⟩ := h1 i p hi
 have ne := Off.ne ho hb hi (i * 3)
 exact ⟨b, hb, hg.cell c0 ne, hg.cell c1 ne, hg.cell c2 ne⟩
theorem qK.setO {w : World} {o : Option Addr} {n c : Nat} {L : List VW} (h : qK w (.slice o n c) L) {p : Addr} (ho : Off o L p.block) (u : Value) : qK (w.setCell p u) (.slice o n c) L :=
 h.grown (grownBy_set w p u) (fun g hg => by cases hg; exact ho)
theorem off_ltW {w : World} {o : Option Addr} {n c : Nat} {L : List VW} (h : qK w (.slice o n c) L) : Off o L w.heap.size := by
 intro A hA hne
 obtain ⟨-, h1, -⟩ := h.eqs
 cases L with
 | nil => exact absurd rfl hne
 | cons p L =>
  obtain ⟨b, hb, c0, -⟩ := h1 0 p rfl
  rw [hA] at hb
  cases hb
  have := World.block_lt_of_cell? w _ c0
  rw [yY] at this
  omega
theorem zU {w : World} {base : Nat} {e : TypeId} {size : Nat} {g n c : Nat} {xs : List Value} (h : w.ownsRow base e size (.slice (some ⟨g, 0, none⟩) n c) n xs) {p : Addr} (hp : p.block ≠ g) (u : Value) : (w.setCell p u).ownsRow base e size (.slice (some ⟨g, 0, none⟩) n c) n xs := by
 refine ⟨h.1, ?_⟩
 rcases h.2 with ⟨h0, -⟩ | ⟨g', cap, cur, h1, h2, h3, h4⟩
 ·simp at h0
 ·have h1' := h1
  simp only [Value.slice.injEq, Option.some.injEq, Addr.mk.injEq, and_true, true_and] at h1'
  obtain ⟨rfl, rfl⟩ := h1'
  refine .inr ⟨g, c, cur, h1, h2, ?_, h4⟩
  rw [heap_setCell_other w _ _ _ (fun e => hp e.symm)]
  exact h3
def LK {α : Type} (B K Q : Nat) (o : Option Addr) (c : Nat) (L : List α) : Prop := zK B (.slice o L.length c) ∧ Off o L K ∧ Off o L Q
theorem LK.off {α : Type} {B K Q : Nat} {o : Option Addr} {c : Nat} {L : List α} (h : LK B K Q o c L) {b : Nat} (hb : b = K ∨ b = Q ∨ b < B) : Off o L b := by
 rcases hb with rfl | rfl | hb
 ·exact h.2.1
 ·exact h.2.2
 ·exact zQ h.1 hb
theorem LK.new {α : Type} {B K Q F : Nat} {o : Option Addr} {c : Nat} {L : List α} (h : zK F (.slice o L.length c)) (hB : B ≤ F) (hK : K < F) (hQ : Q < F) : LK B K Q o c L :=
 ⟨h.mono hB, zQ h hK, zQ h hQ⟩
structure KA where
 o1 : Option Addr
 c1 : Nat
 o2 : Option Addr
 c2 : Nat
 o3 : Option Addr
 c3 : Nat
 od : Option Addr
 cd : Nat
 cg : Nat
 ov : Option Addr
 cv : Nat
abbrev boxK (a : KA) (Q : Nat) (T : List TK) (P : List TP) (V : List Int) (dv : Int) (D : List Int) (G : List GT) (W : List VW) (X : TypeId) : Obj :=
 .cells #[.slice a.o1 T.length a.c1, .slice a.o2 P.length a.c2, .slice a.o3 V.length a.c3, .int .i64 dv, .slice a.od D.length a.cd, .slice (some ⟨Q, 0, none⟩) G.length a.cg, .slice a.ov W.length a.cv] X
structure Kl (w : World) (K Q B : Nat) (a : KA) (T : List TK) (P : List TP) (V D : List Int) (G : List GT) (W : List VW) : Prop where
 tik : yJ w (.slice a.o1 T.length a.c1) T ∧ LK B K Q a.o1 a.c1 T
 tap : zR w (.slice a.o2 P.length a.c2) P ∧ LK B K Q a.o2 a.c2 P
 ver : zP w (.slice a.o3 V.length a.c3) V ∧ LK B K Q a.o3 a.c3 V
 den : zP w (.slice a.od D.length a.cd) D ∧ LK B K Q a.od a.cd D
 vws : qK w (.slice a.ov W.length a.cv) W ∧ LK B K Q a.ov a.cv W
 gts : ∀ g ∈ G, (zR w (.slice g.oa g.A.length g.ca) g.A ∧ LK B K Q g.oa g.ca g.A) ∧ zP w (.slice g.od g.D.length g.cd) g.D ∧ LK B K Q g.od g.cd g.D
theorem Kl.below {w w' : World} {K Q B : Nat} {a : KA} {T : List TK} {P : List TP} {V D : List Int} {G : List GT} {W : List VW} (h : Kl w K Q B a T P V D G W) (hb : Below w.heap.size w w') : Kl w' K Q B a T P V D G W :=
  ⟨⟨h.tik.1.below hb, h.tik.2⟩, ⟨h.tap.1.below hb, h.tap.2⟩, ⟨h.ver.1.below hb, h.ver.2⟩, ⟨h.den.1.below hb, h.den.2⟩, ⟨h.vws.1.below hb, h.vws.2⟩,
   fun g hg => have ⟨⟨a1, a2⟩, b1, b2⟩ := h.gts g hg; ⟨⟨a1.below hb, a2⟩, b1.below hb, b2⟩⟩
theorem Kl.setO {w : World} {K Q B : Nat} {a : KA} {T : List TK} {P : List TP} {V D : List Int} {G : List GT} {W : List VW} (h : Kl w K Q B a T P V D G W) {p : Addr} (hp : p.block = K ∨ p.block = Q ∨ p.block < B) (u : Value) : Kl (w.setCell p u) K Q B a T P V D G W :=
  ⟨⟨h.tik.1.setO (h.tik.2.off hp) u, h.tik.2⟩, ⟨h.tap.1.setO (h.tap.2.off hp) u, h.tap.2⟩, ⟨h.ver.1.setO (h.ver.2.off hp) u, h.ver.2⟩, ⟨h.den.1.setO (h.den.2.off hp) u, h.den.2⟩, ⟨h.vws.1.setO (h.vws.2.off hp) u, h.vws.2⟩,
   fun g hg => have ⟨⟨a1, a2⟩, b1, b2⟩ := h.gts g hg; ⟨⟨a1.setO (a2.off hp) u, a2⟩, b1.setO (b2.off hp) u, b2⟩⟩
structure Ks (w : World) (K Q B : Nat) (a : KA) (T : List TK) (P : List TP) (V : List Int) (dv : Int) (D : List Int) (G : List GT) (W : List VW) : Prop where
 box : w.heap[K]? = some (boxK a Q T P V dv D G W 92)
 row : w.ownsRow B 58 8 (.slice (some ⟨Q, 0, none⟩) G.length a.cg) G.length (yF G)
 bk : B ≤ K
 ne : K ≠ Q
 kl : Kl w K Q B a T P V D G W
section
variable {w : World} {K Q B : Nat} {a : KA} {T : List TK} {P : List TP} {V : List Int} {dv : Int} {D : List Int} {G : List GT} {W : List VW}
theorem Ks.below {w' : World} (h : Ks w K Q B a T P V dv D G W) (hb : Below w.heap.size w w') : Ks w' K Q B a T P V dv D G W :=
 ⟨zC h.box hb, zF h.row hb, h.bk, h.ne, h.kl.below hb⟩
theorem Ks.lt (h : Ks w K Q B a T P V dv D G W) : K < w.heap.size := (Array.getElem?_eq_some_iff.1 h.box).1
theorem Ks.qlt (h : Ks w K Q B a T P V dv D G W) : B ≤ Q ∧ Q < w.heap.size := qQ h.row
theorem Ks.setB (h : Ks w K Q B a T P V dv D G W) {p : Addr} (hp : p.block < B) (u : Value) : Ks (w.setCell p u) K Q B a T P V dv D G W :=
 ⟨by rw [heap_setCell_other w _ _ _ (by have := h.bk; omega)]; exact h.box, yN h.row hp u, h.bk, h.ne, h.kl.setO (.inr (.inr hp)) u⟩
theorem Ks.setLed (h : Ks w K Q B a T P V dv D G W) {x1 x2 x3 : Option Addr} {y1 y2 y3 : Nat} {T' : List TK} {P' : List TP} {V' : List Int}
    (h1 : yJ w (.slice x1 T'.length y1) T' ∧ LK B K Q x1 y1 T') (h2 : zR w (.slice x2 P'.length y2) P' ∧ LK B K Q x2 y2 P') (h3 : zP w (.slice x3 V'.length y3) V' ∧ LK B K Q x3 y3 V') :
    Ks (((w.setCell ⟨K, 0, none⟩ (.slice x1 T'.length y1)).setCell ⟨K, 1, none⟩ (.slice x2 P'.length y2)).setCell ⟨K, 2, none⟩ (.slice x3 V'.length y3)) K Q B { a with o1 := x1, c1 := y1, o2 := x2, c2 := y2, o3 := x3, c3 := y3 } T' P' V' dv D G W :=
  ⟨heap_setCell_same _ K 2 _ _ _ (heap_setCell_same _ K 1 _ _ _ (heap_setCell_same w K 0 _ _ _ h.box)),
   zU (zU (zU h.row (p := ⟨K, 0, none⟩) h.ne _) (p := ⟨K, 1, none⟩) h.ne _) (p := ⟨K, 2, none⟩) h.ne _, h.bk, h.ne,
   (((show Kl w K Q B { a with o1 := x1, c1 := y1, o2 := x2, c2 := y2, o3 := x3, c3 := y3 } T' P' V' D G W from ⟨h1, h2, h3, h.kl.den, h.kl.vws, h.kl.gts⟩).setO (p := ⟨K, 0, none⟩) (.inl rfl) _).setO (p := ⟨K, 1, none⟩) (.inl rfl) _).setO (p := ⟨K, 2, none⟩) (.inl rfl) _⟩
theorem Ks.setDen (h : Ks w K Q B a T P V dv D G W) {x : Option Addr} {y : Nat} {n : Int} {D' : List Int} (h1 : zP w (.slice x D'.length y) D' ∧ LK B K Q x y D') :
    Ks ((w.setCell ⟨K, 3, none⟩ (.int .i64 n)).setCell ⟨K, 4, none⟩ (.slice x D'.length y)) K Q B { a with od := x, cd := y } T P V n D' G W :=
  ⟨heap_setCell_same _ K 4 _ _ _ (heap_setCell_same w K 3 _ _ _ h.box),
   zU (zU h.row (p := ⟨K, 3, none⟩) h.ne _) (p := ⟨K, 4, none⟩) h.ne _, h.bk, h.ne,
   ((show Kl w K Q B { a with od := x, cd := y } T P V D' G W from ⟨h.kl.tik, h.kl.tap, h.kl.ver, h1, h.kl.vws, h.kl.gts⟩).setO (p := ⟨K, 3, none⟩) (.inl rfl) _).setO (p := ⟨K, 4, none⟩) (.inl rfl) _⟩
theorem zD {w : World} {b : Nat} {o : Obj} (h : w.heap[b]? = some o) {p : Addr} (hp : p.block ≠ b) (u : Value) : (w.setCell p u).heap[b]? = some o := by
 rw [heap_setCell_other w _ _ _ (fun e => hp e.symm)]
 exact h
theorem mem_set {α : Type} {L : List α} {q : Nat} {g x : α} (h : x ∈ L.set q g) : x ∈ L ∨ x = g := by
 rcases List.mem_or_eq_of_mem_set h with h | h
 ·exact .inl h
 ·exact .inr h
theorem Kl.setG (h : Kl w K Q B a T P V D G W) (q : Nat) {g' : GT} (h1 : zR w (.slice g'.oa g'.A.length g'.ca) g'.A ∧ LK B K Q g'.oa g'.ca g'.A) (h2 : zP w (.slice g'.od g'.D.length g'.cd) g'.D ∧ LK B K Q g'.od g'.cd g'.D) : Kl w K Q B a T P V D (G.set q g') W :=
 ⟨h.tik, h.tap, h.ver, h.den, h.vws, fun g hg => by
  rcases mem_set hg with hg | rfl
  ·exact h.gts g hg
  ·exact ⟨h1, h2⟩⟩
theorem Ks.setSeq (h : Ks w K Q B a T P V dv D G W) (q : Nat) (g : GT) (hq : G[q]? = some g) (s' : Int) :
  Ks (w.setCell ⟨Q, q * 8 + 2, none⟩ (.int .i64 s')) K Q B a T P V dv D (G.set q { g with s := s' }) W := by
 have hl : (G.set q { g with s := s' }).length = G.length := List.length_set
 have hr := (h.row.stored (q * 8 + 2) (.int .i64 s')).1
 rw [yT G q g { g with s := s' } 2 _ hq (by omega) rfl] at hr
 have hm := h.kl.gts g (List.mem_of_getElem? hq)
 refine ⟨?_, by rw [hl]; exact hr, h.bk, h.ne, (h.kl.setG q (g' := { g with s := s' }) hm.1 hm.2).setO (p := ⟨Q, q * 8 + 2, none⟩) (.inr (.inl rfl)) _⟩
 have := zD h.box (p := ⟨Q, q * 8 + 2, none⟩) (fun e => h.ne e.symm) (.int .i64 s')
 rw [this]
 simp only [boxK, hl]
theorem Ks.setGate (h : Ks w K Q B a T P V dv D G W) (q : Nat) (g g' : GT) (hq : G[q]? = some g) (h1 : zR w (.slice g'.oa g'.A.length g'.ca) g'.A ∧ LK B K Q g'.oa g'.ca g'.A) (h2 : zP w (.slice g'.od g'.D.length g'.cd) g'.D ∧ LK B K Q g'.od g'.cd g'.D) :
  Ks ((((((((w.setCell ⟨Q, q * 8, none⟩ (.int .i64 g'.i)).setCell ⟨Q, q * 8 + 1, none⟩ (.int .i64 g'.z)).setCell ⟨Q, q * 8 + 2, none⟩ (.int .i64 g'.s)).setCell ⟨Q, q * 8 + 3, none⟩ (.slice g'.oa g'.A.length g'.ca)).setCell ⟨Q, q * 8 + 4, none⟩ (.int .i64 g'.v)).setCell ⟨Q, q * 8 + 5, none⟩ (.slice g'.od g'.D.length g'.cd)).setCell ⟨Q, q * 8 + 6, none⟩ (.int .i64 g'.l)).setCell ⟨Q, q * 8 + 7, none⟩ (.int .i64 g'.u)) K Q B a T P V dv D (G.set q g') W := by
 have hl : (G.set q g').length = G.length := List.length_set
 have hlt := (List.getElem?_eq_some_iff.1 hq).1
 have hset : ∀ x : GT, (G.set q x)[q]? = some x := fun x => by rw [List.getElem?_set_self hlt]
 have hr := (((((((((h.row.stored (q * 8) (.int .i64 g'.i)).1.stored (q * 8 + 1) (.int .i64 g'.z)).1.stored (q * 8 + 2) (.int .i64 g'.s)).1.stored (q * 8 + 3) (.slice g'.oa g'.A.length g'.ca)).1.stored (q * 8 + 4) (.int .i64 g'.v)).1.stored (q * 8 + 5) (.slice g'.od g'.D.length g'.cd)).1.stored (q * 8 + 6) (.int .i64 g'.l)).1.stored (q * 8 + 7) (.int .i64 g'.u)).1)
 have e0 : (yF G).set (q * 8) (.int .i64 g'.i) = yF (G.set q ⟨g'.i, g.z, g.s, g.oa, g.A, g.ca, g.v, g.od, g.D, g.cd, g.l, g.u⟩) := yT G q g ⟨g'.i, g.z, g.s, g.oa, g.A, g.ca, g.v, g.od, g.D, g.cd, g.l, g.u⟩ 0 _ hq (by omega) rfl
 rw [e0, yT _ q _ ⟨g'.i, g'.z, g.s, g.oa, g.A, g.ca, g.v, g.od, g.D, g.cd, g.l, g.u⟩ 1 (.int .i64 g'.z) (hset ⟨g'.i, g.z, g.s, g.oa, g.A, g.ca, g.v, g.od, g.D, g.cd, g.l, g.u⟩) (by omega) rfl, List.set_set,
  yT _ q _ ⟨g'.i, g'.z, g'.s, g.oa, g.A, g.ca, g.v, g.od, g.D, g.cd, g.l, g.u⟩ 2 (.int .i64 g'.s) (hset ⟨g'.i, g'.z, g.s, g.oa, g.A, g.ca, g.v, g.od, g.D, g.cd, g.l, g.u⟩) (by omega) rfl, List.set_set,
  yT _ q _ ⟨g'.i, g'.z, g'.s, g'.oa, g'.A, g'.ca, g.v, g.od, g.D, g.cd, g.l, g.u⟩ 3 (.slice g'.oa g'.A.length g'.ca) (hset ⟨g'.i, g'.z, g'.s, g.oa, g.A, g.ca, g.v, g.od, g.D, g.cd, g.l, g.u⟩) (by omega) rfl, List.set_set,
  yT _ q _ ⟨g'.i, g'.z, g'.s, g'.oa, g'.A, g'.ca, g'.v, g.od, g.D, g.cd, g.l, g.u⟩ 4 (.int .i64 g'.v) (hset ⟨g'.i, g'.z, g'.s, g'.oa, g'.A, g'.ca, g.v, g.od, g.D, g.cd, g.l, g.u⟩) (by omega) rfl, List.set_set,
  yT _ q _ ⟨g'.i, g'.z, g'.s, g'.oa, g'.A, g'.ca, g'.v, g'.od, g'.D, g'.cd, g.l, g.u⟩ 5 (.slice g'.od g'.D.length g'.cd) (hset ⟨g'.i, g'.z, g'.s, g'.oa, g'.A, g'.ca, g'.v, g.od, g.D, g.cd, g.l, g.u⟩) (by omega) rfl, List.set_set,
  yT _ q _ ⟨g'.i, g'.z, g'.s, g'.oa, g'.A, g'.ca, g'.v, g'.od, g'.D, g'.cd, g'.l, g.u⟩ 6 (.int .i64 g'.l) (hset ⟨g'.i, g'.z, g'.s, g'.oa, g'.A, g'.ca, g'.v, g'.od, g'.D, g'.cd, g.l, g.u⟩) (by omega) rfl, List.set_set,
  yT _ q _ g' 7 (.int .i64 g'.u) (hset ⟨g'.i, g'.z, g'.s, g'.oa, g'.A, g'.ca, g'.v, g'.od, g'.D, g'.cd, g'.l, g.u⟩) (by omega) rfl, List.set_set] at hr
 refine ⟨?_, by rw [hl]; exact hr, h.bk, h.ne, ?_⟩
 ·have := zD (zD (zD (zD (zD (zD (zD (zD h.box (p := ⟨Q, q * 8, none⟩) (fun e => h.ne e.symm) (.int .i64 g'.i)) (p := ⟨Q, q * 8 + 1, none⟩) (fun e => h.ne e.symm) (.int .i64 g'.z)) (p := ⟨Q, q * 8 + 2, none⟩) (fun e => h.ne e.symm) (.int .i64 g'.s)) (p := ⟨Q, q * 8 + 3, none⟩) (fun e => h.ne e.symm) (.slice g'.oa g'.A.length g'.ca)) (p := ⟨Q, q * 8 + 4, none⟩) (fun e => h.ne e.symm) (.int .i64 g'.v)) (p := ⟨Q, q * 8 + 5, none⟩) (fun e => h.ne e.symm) (.slice g'.od g'.D.length g'.cd)) (p := ⟨Q, q * 8 + 6, none⟩) (fun e => h.ne e.symm) (.int .i64 g'.l)) (p := ⟨Q, q * 8 + 7, none⟩) (fun e => h.ne e.symm) (.int .i64 g'.u)
  rw [this]
  simp only [boxK, hl]
 ·exact ((((((((h.kl.setG q h1 h2).setO (p := ⟨Q, q * 8, none⟩) (.inr (.inl rfl)) _).setO (p := ⟨Q, q * 8 + 1, none⟩) (.inr (.inl rfl)) _).setO (p := ⟨Q, q * 8 + 2, none⟩) (.inr (.inl rfl)) _).setO (p := ⟨Q, q * 8 + 3, none⟩) (.inr (.inl rfl)) _).setO (p := ⟨Q, q * 8 + 4, none⟩) (.inr (.inl rfl)) _).setO (p := ⟨Q, q * 8 + 5, none⟩) (.inr (.inl rfl)) _).setO (p := ⟨Q, q * 8 + 6, none⟩) (.inr (.inl rfl)) _).setO (p := ⟨Q, q * 8 + 7, none⟩) (.inr (.inl rfl)) _
theorem Ks.led (h : Ks w K Q B a T P V dv D G W) : xW w (lg a.o1 a.o2 a.o3 T.length a.c1 P.length a.c2 V.length a.c3) T P V := xW.of h.kl.tik.1 h.kl.tap.1 h.kl.ver.1
theorem qK.ats {o : Option Addr} {c : Nat} {L : List VW} (h : qK w (.slice o L.length c) L) : zZ w o L := h.eqs.2.1
theorem yJ.ats {o : Option Addr} {c : Nat} {L : List TK} (h : yJ w (.slice o L.length c) L) : zV w o L := h.eqs.2.1
theorem Ks.new {base cq : Nat} {x1 x2 x3 x4 x5 : Option Addr} {y1 y2 y3 y4 y5 : Nat} (h : StF w base Q cq T P V D G W (.slice x1 T.length y1) (.slice x2 P.length y2) (.slice x3 V.length y3) (.slice x4 D.length y4) (.slice x5 W.length y5)) (hB : B ≤ base) (hBw : base ≤ w.heap.size) :
  Ks (w.alloc (boxK ⟨x1, y1, x2, y2, x3, y3, x4, y4, cq, x5, y5⟩ Q T P V dv D G W 92)) w.heap.size Q B ⟨x1, y1, x2, y2, x3, y3, x4, y4, cq, x5, y5⟩ T P V dv D G W := by
 have hb := (Below.refl w.heap.size w).alloc (Nat.le_refl _) (boxK ⟨x1, y1, x2, y2, x3, y3, x4, y4, cq, x5, y5⟩ Q T P V dv D G W 92)
 have hq := qQ h.row
 refine ⟨heap_alloc_new w _, ownsRow_base (zF h.row hb) hB, Nat.le_trans hB hBw, by omega, Kl.below (w := w) ⟨⟨h.tik.1, h.tik.2.mono (by omega), off_ltT h.tik.1, zQ h.tik.2 (by omega)⟩, ⟨h.tap.1, h.tap.2.mono (by omega), jI h.tap.1, zQ h.tap.2 (by omega)⟩, ⟨h.ver.1, h.ver.2.mono (by omega), jH h.ver.1, zQ h.ver.2 (by omega)⟩,
  ⟨h.den.1, h.den.2.mono (by omega), jH h.den.1, zQ h.den.2 (by omega)⟩, ⟨h.vws.1, h.vws.2.mono (by omega), off_ltW h.vws.1, zQ h.vws.2 (by omega)⟩, fun g hg => ?_⟩ hb⟩
 obtain ⟨⟨a1, a2⟩, b1, b2⟩ := h.gls g hg
 exact ⟨⟨a1, a2.mono (by omega), jI a1, zQ a2 (by omega)⟩, b1, b2.mono (by omega), jH b1, zQ b2 (by omega)⟩
end
end
section
open Go.RowKit
theorem zX {w : World} {p q : Addr} {u v : Value} (hne : p.block ≠ q.block) (h : w.cell? q = some v) : (w.setCell p u).cell? q = some v := by
 rw [World.cell?_setCell_other]
 ·exact h
 ·intro e
  exact hne (by rw [e])
def newE (va : Int) (La : List Int) (vb : Int) (Lb : List Int) : Int := if yZ va La = 0 then yZ vb Lb else yZ va La
theorem wrongE_two (va vb : Int) (La Lb : List Int) (oa ob : Option Addr) (ca cb : Nat) : wrongE [⟨va, La, oa, ca⟩, ⟨vb, Lb, ob, cb⟩] = newE va La vb Lb := by
 rw [wrongE, wrongE_one, newE]
theorem newE_right {va vb : Int} {La Lb : List Int} (h : newE va La vb Lb = 0) : yZ va La = 0 ∧ yZ vb Lb = 0 := by
 rw [newE] at h
 split at h
 ·rename_i h1; exact ⟨h1, h⟩
 ·rename_i h1; exact absurd h h1
theorem newerF_any (va vb : Int) (La Lb : List Int) (oa ob : Option Addr) (ca cb : Nat) (w : World) (hLa : zH w oa La) (hLb : zH w ob Lb) (hla : La.length ≤ 9223372036854775807) (hlb : Lb.length ≤ 9223372036854775807) :
  Calls Tryz.prog 138 #[dn va oa La.length ca, dn vb ob Lb.length cb] w fun e w' =>
   (∃ u, e = .returned (.tuple #[.agg #[.int .i64 (if newE va La vb Lb = 0 then (if va < vb then vb else va) else 0), u], .int .i64 (newE va La vb Lb)]) ∧ zP w' u (if newE va La vb Lb = 0 then (if va < vb then Lb else La) else []) ∧ zK w.heap.size u) ∧ Below w.heap.size w w' := by
 have HB := zA ((((zL.nil w).more (.cells #[.int .i64 va, .slice oa La.length ca] 28) (by simp)).more (.cells #[.int .i64 vb, .slice ob Lb.length cb] 28) (by simp)).more (.cells #[.int .i64 0, .slice none 0 0] 28) (by simp))
 have HW := zA (fun W B (h : DensAt W B [⟨va, La, oa, ca⟩, ⟨vb, Lb, ob, cb⟩]) => denWrong_any [⟨va, La, oa, ca⟩, ⟨vb, Lb, ob, cb⟩] B 2 W h (by simp))
 rw [wrongE_two] at HW
 have HR : Hid (newE va La vb Lb = 0 → La.length ≤ 12 ∧ Lb.length ≤ 12) := fun h => ⟨(yE (newE_right h).1).2.2.1, (yE (newE_right h).2).2.2.1⟩
 have HLa := zA hLa
 have HLb := zA hLb
 clear hLa hLb
 generalize newE va La vb Lb = E at *
 by_cases hE : E = 0
 ·subst hE
  rw [if_pos rfl, if_pos rfl]
  have hlens := HR.out rfl
  by_cases hlt : va < vb
  ·rw [if_pos hlt, if_pos hlt]
   go_enter Tryz.func138, Tryz.ntmps138
   go_wp2_with fail
   have HC := zA ((zL.nil _).more (w := ((w.alloc (.cells #[.int .i64 va, .slice oa La.length ca] 28)).alloc (.cells #[.int .i64 vb, .slice ob Lb.length cb] 28)).alloc (.cells #[.int .i64 0, .slice none 0 0] 28)) (.cells #[.int .i64 va, .slice oa La.length ca, .int .i64 vb, .slice ob Lb.length cb] 28) (by simp))
   have HB1 := zA (HB.out.on HC.out.2.2)
   refine (HW.out _ _ (densAt_two _ va vb La Lb oa ob ca cb _ _ (by simpa using HC.out.1 0 _ rfl) (HLa.out.below HB1.out.2.2) hla (HLb.out.below HB1.out.2.2) hlb)).mono ?_
   rintro e w1 ⟨rfl, hb1⟩
   have HB2 := zA (HB1.out.on hb1)
   clear hb1 HB HB1 HC
   obtain ⟨x0, x1⟩ := HB2.out.c2 0 w.heap.size rfl rfl rfl rfl
   obtain ⟨y0, y1⟩ := HB2.out.c2 1 (w.heap.size + 1) rfl rfl rfl rfl
   have hsz := HB2.out.2.1
   simp only [List.length_append, List.length_cons, List.length_nil] at hsz
   have hq0 : w.heap.size < w1.heap.size := by omega
   have hq1 : w.heap.size + 1 < w1.heap.size := by omega
   go_wp2_with fail
   have hbk := (Below.refl w1.heap.size w1).alloc (Nat.le_refl _) (.cells #[.int .i64 vb, .slice ob Lb.length cb] 164)
   have HB3 := zA (HB2.out.on hbk)
   have HB4 := HB3
   have k0 : (w1.alloc (.cells #[.int .i64 vb, .slice ob Lb.length cb] 164)).cell? ⟨w1.heap.size, 0, none⟩ = some (.int .i64 vb) := by simp [go_sem]
   have k1 : (w1.alloc (.cells #[.int .i64 vb, .slice ob Lb.length cb] 164)).cell? ⟨w1.heap.size, 1, none⟩ = some (.slice ob Lb.length cb) := by simp [go_sem]
   have HSk : Hid (w1.heap.size < (w1.alloc (.cells #[.int .i64 vb, .slice ob Lb.length cb] 164)).heap.size) := zA (by simp)
   clear HB2 HB3 hbk x0 x1 y0 y1
   generalize w1.alloc (.cells #[.int .i64 vb, .slice ob Lb.length cb] 164) = w2 at *
   refine zJ (fun w' => zL w w' ([] ++ [.cells #[.int .i64 va, .slice oa La.length ca] 28] ++ [.cells #[.int .i64 vb, .slice ob Lb.length cb] 28]) ∧ w'.cell? ⟨w1.heap.size, 0, none⟩ = some (.int .i64 vb) ∧ w'.cell? ⟨w1.heap.size, 1, none⟩ = some (.slice ob Lb.length cb)) [0, 1, 2, 3, 4, 5] 4 (by rfl) (by kernel_rfl) (by kernel_rfl) (by kernel_rfl) (fun c d v a w h => by cases d <;> exact h) ?_ ?_
   ·exact ⟨(HB4.out.on (Below.refl _ _).drew).sub, k0, k1⟩
   refine zB (.pointer (some ⟨w1.heap.size, 0, none⟩)) rfl rfl (fun w' hS => ?_) ?_
   ·obtain ⟨-, z0, z1⟩ := hS
    go_simp
   refine zB (.pointer (some ⟨w1.heap.size, 0, none⟩)) rfl rfl (fun w' hS => ?_) ?_
   ·obtain ⟨-, z0, z1⟩ := hS
    go_simp
   refine zB (.int .i64 vb) rfl rfl (fun w' hS => ?_) ?_
   ·obtain ⟨-, z0, z1⟩ := hS
    go_simp
   refine zB (.pointer (some ⟨w1.heap.size, 0, none⟩)) rfl rfl (fun w' hS => ?_) ?_
   ·obtain ⟨-, z0, z1⟩ := hS
    go_simp
   refine zB (.pointer (some ⟨w1.heap.size, 1, none⟩)) rfl rfl (fun w' hS => ?_) ?_
   ·obtain ⟨-, z0, z1⟩ := hS
    go_simp
   refine zB (.slice ob Lb.length cb) rfl rfl (fun w' hS => ?_) ?_
   ·obtain ⟨-, z0, z1⟩ := hS
    go_simp
   refine zE ?_
   have HBa := zA (HB4.out.on ((Below.refl w2.heap.size w2).drew))
   have ka0 : w2.drew.cell? ⟨w1.heap.size, 0, none⟩ = some (.int .i64 vb) := k0
   have ka1 : w2.drew.cell? ⟨w1.heap.size, 1, none⟩ = some (.slice ob Lb.length cb) := k1
   clear HB4 k0 k1 HSk
   generalize w2.drew = wa at *
   refine oR 6 rfl rfl fun K hK => ?_
   go_simp
   refine (jL Lb ob cb wa (HLb.out.below HBa.out.2.2) (by omega)).mono ?_
   rintro e wd ⟨⟨v1, rfl, ⟨oc, cc, rfl, ha⟩, hf1⟩, hbd⟩
   have hsz := HBa.out.2.1
   simp only [List.length_append, List.length_cons, List.length_nil] at hsz
   have HV1 := zA (And.intro (show zP wd (.slice oc Lb.length cc) Lb from ⟨oc, cc, rfl, ha⟩) (hf1.monoD (show w.heap.size + 1 + 1 + 1 ≤ wa.heap.size by omega)))
   have HBd := zA (HBa.out.on hbd)
   have kb0 : wd.cell? ⟨w1.heap.size, 0, none⟩ = some (.int .i64 vb) := by rw [hbd.cell (World.block_lt_of_cell? wa _ ka0)]; exact ka0
   have kb1 : wd.cell? ⟨w1.heap.size, 1, none⟩ = some (.slice ob Lb.length cb) := by rw [hbd.cell (World.block_lt_of_cell? wa _ ka1)]; exact ka1
   clear ha hf1 hbd HBa hsz ka0 ka1
   refine hK _ _ ⟨HBd.out.sub, kb0, kb1⟩ ?_
   clear hK K
   refine oR 7 rfl rfl fun K hK => ?_
   go_simp
   refine hK _ _ ⟨HBd.out.sub, kb0, kb1⟩ ?_
   clear hK K
   obtain ⟨r0, r1⟩ := HBd.out.c2 2 (w.heap.size + 1 + 1) rfl rfl rfl rfl
   obtain ⟨s0, s1⟩ := HBd.out.z2 2 (w.heap.size + 1 + 1) rfl rfl
   refine oR 8 rfl rfl fun K hK => ?_
   go_simp
   have HKg := zA ((HBd.out.sub.set ⟨w.heap.size + 1 + 1, 0, none⟩ (by simp) (.int .i64 vb)).set ⟨w.heap.size + 1 + 1, 1, none⟩ (by simp) (.slice oc Lb.length cc))
   have g0 : ((wd.setCell ⟨w.heap.size + 1 + 1, 0, none⟩ (.int .i64 vb)).setCell ⟨w.heap.size + 1 + 1, 1, none⟩ (.slice oc Lb.length cc)).cell? ⟨w.heap.size + 1 + 1, 0, none⟩ = some (.int .i64 vb) := by simp [go_sem, r0]
   have g1 : ((wd.setCell ⟨w.heap.size + 1 + 1, 0, none⟩ (.int .i64 vb)).setCell ⟨w.heap.size + 1 + 1, 1, none⟩ (.slice oc Lb.length cc)).cell? ⟨w.heap.size + 1 + 1, 1, none⟩ = some (.slice oc Lb.length cc) := by simp [go_sem, r1]
   have kc0 := zX (p := ⟨w.heap.size + 1 + 1, 1, none⟩) (u := .slice oc Lb.length cc) (by simp; omega) (zX (p := ⟨w.heap.size + 1 + 1, 0, none⟩) (u := .int .i64 vb) (by simp; omega) kb0)
   have kc1 := zX (p := ⟨w.heap.size + 1 + 1, 1, none⟩) (u := .slice oc Lb.length cc) (by simp; omega) (zX (p := ⟨w.heap.size + 1 + 1, 0, none⟩) (u := .int .i64 vb) (by simp; omega) kb1)
   have HVg := zA ((HV1.out.1.setD HV1.out.2 (p := ⟨w.heap.size + 1 + 1, 0, none⟩) (by simp) (.int .i64 vb)).setD HV1.out.2 (p := ⟨w.heap.size + 1 + 1, 1, none⟩) (by simp) (.slice oc Lb.length cc))
   have HFg := zA (HV1.out.2.monoD (show w.heap.size ≤ w.heap.size + 1 + 1 + 1 by omega))
   refine hK _ _ ⟨HKg.out, kc0, kc1⟩ ?_
   clear hK K HV1 HBd r0 r1 s0 s1 kb0 kb1
   generalize (wd.setCell ⟨w.heap.size + 1 + 1, 0, none⟩ (.int .i64 vb)).setCell ⟨w.heap.size + 1 + 1, 1, none⟩ (.slice oc Lb.length cc) = wg at *
   refine oR 9 rfl rfl fun K hK => ?_
   go_simp
   refine hK _ _ ⟨HKg.out, kc0, kc1⟩ ?_
   clear hK K kc0 kc1
   refine wpAnyH_done (by kernel_rfl) ?_ _
   go_wp2_with fail
   refine bodyPost_ret (v := .tuple #[.agg #[.int .i64 vb, .slice oc Lb.length cc], .int .i64 0]) (by simp [results, Tryz.results138, go_sem, g0, g1]) rfl ⟨⟨_, rfl, HVg.out, HFg.out⟩, HKg.out.2.2⟩
  ·rw [if_neg hlt, if_neg hlt]
   go_enter Tryz.func138, Tryz.ntmps138
   go_wp2_with fail
   have HC := zA ((zL.nil _).more (w := ((w.alloc (.cells #[.int .i64 va, .slice oa La.length ca] 28)).alloc (.cells #[.int .i64 vb, .slice ob Lb.length cb] 28)).alloc (.cells #[.int .i64 0, .slice none 0 0] 28)) (.cells #[.int .i64 va, .slice oa La.length ca, .int .i64 vb, .slice ob Lb.length cb] 28) (by simp))
   have HB1 := zA (HB.out.on HC.out.2.2)
   refine (HW.out _ _ (densAt_two _ va vb La Lb oa ob ca cb _ _ (by simpa using HC.out.1 0 _ rfl) (HLa.out.below HB1.out.2.2) hla (HLb.out.below HB1.out.2.2) hlb)).mono ?_
   rintro e w1 ⟨rfl, hb1⟩
   have HB2 := zA (HB1.out.on hb1)
   clear hb1 HB HB1 HC
   obtain ⟨x0, x1⟩ := HB2.out.c2 0 w.heap.size rfl rfl rfl rfl
   obtain ⟨y0, y1⟩ := HB2.out.c2 1 (w.heap.size + 1) rfl rfl rfl rfl
   have hsz := HB2.out.2.1
   simp only [List.length_append, List.length_cons, List.length_nil] at hsz
   have hq0 : w.heap.size < w1.heap.size := by omega
   have hq1 : w.heap.size + 1 < w1.heap.size := by omega
   go_wp2_with fail
   have hbk := (Below.refl w1.heap.size w1).alloc (Nat.le_refl _) (.cells #[.int .i64 va, .slice oa La.length ca] 164)
   have HB3 := zA (HB2.out.on hbk)
   have HB4 := HB3
   have k0 : (w1.alloc (.cells #[.int .i64 va, .slice oa La.length ca] 164)).cell? ⟨w1.heap.size, 0, none⟩ = some (.int .i64 va) := by simp [go_sem]
   have k1 : (w1.alloc (.cells #[.int .i64 va, .slice oa La.length ca] 164)).cell? ⟨w1.heap.size, 1, none⟩ = some (.slice oa La.length ca) := by simp [go_sem]
   have HSk : Hid (w1.heap.size < (w1.alloc (.cells #[.int .i64 va, .slice oa La.length ca] 164)).heap.size) := zA (by simp)
   clear HB2 HB3 hbk x0 x1 y0 y1
   generalize w1.alloc (.cells #[.int .i64 va, .slice oa La.length ca] 164) = w2 at *
   refine zJ (fun w' => zL w w' ([] ++ [.cells #[.int .i64 va, .slice oa La.length ca] 28] ++ [.cells #[.int .i64 vb, .slice ob Lb.length cb] 28]) ∧ w'.cell? ⟨w1.heap.size, 0, none⟩ = some (.int .i64 va) ∧ w'.cell? ⟨w1.heap.size, 1, none⟩ = some (.slice oa La.length ca)) [0, 1, 2, 3, 4, 5] 4 (by rfl) (by kernel_rfl) (by kernel_rfl) (by kernel_rfl) (fun c d v a w h => by cases d <;> exact h) ?_ ?_
   ·exact ⟨(HB4.out.on (Below.refl _ _).drew).sub, k0, k1⟩
   refine zB (.pointer (some ⟨w1.heap.size, 0, none⟩)) rfl rfl (fun w' hS => ?_) ?_
   ·obtain ⟨-, z0, z1⟩ := hS
    go_simp
   refine zB (.pointer (some ⟨w1.heap.size, 0, none⟩)) rfl rfl (fun w' hS => ?_) ?_
   ·obtain ⟨-, z0, z1⟩ := hS
    go_simp
   refine zB (.int .i64 va) rfl rfl (fun w' hS => ?_) ?_
   ·obtain ⟨-, z0, z1⟩ := hS
    go_simp
   refine zB (.pointer (some ⟨w1.heap.size, 0, none⟩)) rfl rfl (fun w' hS => ?_) ?_
   ·obtain ⟨-, z0, z1⟩ := hS
    go_simp
   refine zB (.pointer (some ⟨w1.heap.size, 1, none⟩)) rfl rfl (fun w' hS => ?_) ?_
   ·obtain ⟨-, z0, z1⟩ := hS
    go_simp
   refine zB (.slice oa La.length ca) rfl rfl (fun w' hS => ?_) ?_
   ·obtain ⟨-, z0, z1⟩ := hS
    go_simp
   refine zE ?_
   have HBa := zA (HB4.out.on ((Below.refl w2.heap.size w2).drew))
   have ka0 : w2.drew.cell? ⟨w1.heap.size, 0, none⟩ = some (.int .i64 va) := k0
   have ka1 : w2.drew.cell? ⟨w1.heap.size, 1, none⟩ = some (.slice oa La.length ca) := k1
   clear HB4 k0 k1 HSk
   generalize w2.drew = wa at *
   refine oR 6 rfl rfl fun K hK => ?_
   go_simp
   refine (jL La oa ca wa (HLa.out.below HBa.out.2.2) (by omega)).mono ?_
   rintro e wd ⟨⟨v1, rfl, ⟨oc, cc, rfl, ha⟩, hf1⟩, hbd⟩
   have hsz := HBa.out.2.1
   simp only [List.length_append, List.length_cons, List.length_nil] at hsz
   have HV1 := zA (And.intro (show zP wd (.slice oc La.length cc) La from ⟨oc, cc, rfl, ha⟩) (hf1.monoD (show w.heap.size + 1 + 1 + 1 ≤ wa.heap.size by omega)))
   have HBd := zA (HBa.out.on hbd)
   have kb0 : wd.cell? ⟨w1.heap.size, 0, none⟩ = some (.int .i64 va) := by rw [hbd.cell (World.block_lt_of_cell? wa _ ka0)]; exact ka0
   have kb1 : wd.cell? ⟨w1.heap.size, 1, none⟩ = some (.slice oa La.length ca) := by rw [hbd.cell (World.block_lt_of_cell? wa _ ka1)]; exact ka1
   clear ha hf1 hbd HBa hsz ka0 ka1
   refine hK _ _ ⟨HBd.out.sub, kb0, kb1⟩ ?_
   clear hK K
   refine oR 7 rfl rfl fun K hK => ?_
   go_simp
   refine hK _ _ ⟨HBd.out.sub, kb0, kb1⟩ ?_
   clear hK K
   obtain ⟨r0, r1⟩ := HBd.out.c2 2 (w.heap.size + 1 + 1) rfl rfl rfl rfl
   obtain ⟨s0, s1⟩ := HBd.out.z2 2 (w.heap.size + 1 + 1) rfl rfl
   refine oR 8 rfl rfl fun K hK => ?_
   go_simp
   have HKg := zA ((HBd.out.sub.set ⟨w.heap.size + 1 + 1, 0, none⟩ (by simp) (.int .i64 va)).set ⟨w.heap.size + 1 + 1, 1, none⟩ (by simp) (.slice oc La.length cc))
   have g0 : ((wd.setCell ⟨w.heap.size + 1 + 1, 0, none⟩ (.int .i64 va)).setCell ⟨w.heap.size + 1 + 1, 1, none⟩ (.slice oc La.length cc)).cell? ⟨w.heap.size + 1 + 1, 0, none⟩ = some (.int .i64 va) := by simp [go_sem, r0]
   have g1 : ((wd.setCell ⟨w.heap.size + 1 + 1, 0, none⟩ (.int .i64 va)).setCell ⟨w.heap.size + 1 + 1, 1, none⟩ (.slice oc La.length cc)).cell? ⟨w.heap.size + 1 + 1, 1, none⟩ = some (.slice oc La.length cc) := by simp [go_sem, r1]
   have kc0 := zX (p := ⟨w.heap.size + 1 + 1, 1, none⟩) (u := .slice oc La.length cc) (by simp; omega) (zX (p := ⟨w.heap.size + 1 + 1, 0, none⟩) (u := .int .i64 va) (by simp; omega) kb0)
   have kc1 := zX (p := ⟨w.heap.size + 1 + 1, 1, none⟩) (u := .slice oc La.length cc) (by simp; omega) (zX (p := ⟨w.heap.size + 1 + 1, 0, none⟩) (u := .int .i64 va) (by simp; omega) kb1)
   have HVg := zA ((HV1.out.1.setD HV1.out.2 (p := ⟨w.heap.size + 1 + 1, 0, none⟩) (by simp) (.int .i64 va)).setD HV1.out.2 (p := ⟨w.heap.size + 1 + 1, 1, none⟩) (by simp) (.slice oc La.length cc))
   have HFg := zA (HV1.out.2.monoD (show w.heap.size ≤ w.heap.size + 1 + 1 + 1 by omega))
   refine hK _ _ ⟨HKg.out, kc0, kc1⟩ ?_
   clear hK K HV1 HBd r0 r1 s0 s1 kb0 kb1
   generalize (wd.setCell ⟨w.heap.size + 1 + 1, 0, none⟩ (.int .i64 va)).setCell ⟨w.heap.size + 1 + 1, 1, none⟩ (.slice oc La.length cc) = wg at *
   refine oR 9 rfl rfl fun K hK => ?_
   go_simp
   refine hK _ _ ⟨HKg.out, kc0, kc1⟩ ?_
   clear hK K kc0 kc1
   refine wpAnyH_done (by kernel_rfl) ?_ _
   go_wp2_with fail
   refine bodyPost_ret (v := .tuple #[.agg #[.int .i64 va, .slice oc La.length cc], .int .i64 0]) (by simp [results, Tryz.results138, go_sem, g0, g1]) rfl ⟨⟨_, rfl, HVg.out, HFg.out⟩, HKg.out.2.2⟩
 ·have h1 : (E != 0) = true := by simpa using hE
  rw [if_neg hE, if_neg hE]
  clear hE
  go_enter Tryz.func138, Tryz.ntmps138
  go_wp2_with fail
  have HC := zA ((zL.nil _).more (w := ((w.alloc (.cells #[.int .i64 va, .slice oa La.length ca] 28)).alloc (.cells #[.int .i64 vb, .slice ob Lb.length cb] 28)).alloc (.cells #[.int .i64 0, .slice none 0 0] 28)) (.cells #[.int .i64 va, .slice oa La.length ca, .int .i64 vb, .slice ob Lb.length cb] 28) (by simp))
  have HB1 := zA (HB.out.on HC.out.2.2)
  refine (HW.out _ _ (densAt_two _ va vb La Lb oa ob ca cb _ _ (by simpa using HC.out.1 0 _ rfl) (HLa.out.below HB1.out.2.2) hla (HLb.out.below HB1.out.2.2) hlb)).mono ?_
  rintro e w1 ⟨rfl, hb1⟩
  have HB2 := zA (HB1.out.on hb1)
  clear hb1 HB HB1 HC
  obtain ⟨r0, r1⟩ := HB2.out.c2 2 (w.heap.size + 1 + 1) rfl rfl rfl rfl
  obtain ⟨s0, s1⟩ := HB2.out.z2 2 (w.heap.size + 1 + 1) rfl rfl
  go_wp2_with fail
  refine bodyPost_ret (v := .tuple #[dn 0 none 0 0, .int .i64 E]) (by simp [results, Tryz.results138, go_sem, *]) rfl ⟨⟨_, rfl, ?_, ?_⟩, ?_⟩
  ·exact ⟨none, 0, rfl, fun i p h => by simp at h, by simp, fun _ => rfl⟩
  ·exact fun k hk => by simp [Value.ownBlock] at hk
  ·repeat (first | with_reducible refine Below.setCell ?_ (by simp; try omega) _ | exact HB2.out.2.2)
theorem zR.setD {w : World} {B : Nat} {v : Value} {L : List TP} (h : zR w v L) (hf : zK B v) {p : Addr} (hp : p.block < B) (u : Value) : zR (w.setCell p u) v L := by
 obtain ⟨o, c, rfl, h1, h2⟩ := h
 refine ⟨o, c, rfl, fun i x hi => ?_, h2⟩
 obtain ⟨b, rfl, a0, a1, a2, a3, a4⟩ := h1 i x hi
 have hB : B ≤ b.block := hf _ rfl
 have hne : ∀ n, p.block ≠ (b.add n).block := fun n => by rw [add_block]; omega
 exact ⟨b, rfl, zX (hne _) a0, zX (by simpa using hne _) a1, zX (by simpa using hne _) a2, zX (by simpa using hne _) a3, zX (by simpa using hne _) a4⟩
def GateF (B : Nat) (w : World) (g : Value) (i z s : Int) (P : List TP) (v : Int) (D : List Int) (l u : Int) : Prop :=
 ∃ oa ca od cd, g = gtV i z s oa P.length ca v od D.length cd l u ∧ zR w (.slice oa P.length ca) P ∧ zK B (.slice oa P.length ca) ∧ zP w (.slice od D.length cd) D ∧ zK B (.slice od D.length cd)
theorem gateWith_any (i z s : Int) (oa : Option Addr) (P : List TP) (ca : Nat) (v : Int) (od : Option Addr) (D : List Int) (cd : Nat) (l u : Int) (a g q m y : Int) (w : World) (hP : zI w oa P) (hD : zH w od D) (hlP : P.length ≤ 12) (hlD : D.length ≤ 12) (hn : oa = none → ca = 0) (hl : 0 ≤ l) (hl2 : l ≤ 9) :
  Calls Tryz.prog 181 #[gtV i z s oa P.length ca v od D.length cd l u, tp a g q m y] w fun e w' => (∃ x, e = .returned x ∧ GateF w.heap.size w' x i z q (P ++ [⟨a, g, q, m, y⟩]) v D (l - 1) u) ∧ Below w.heap.size w w' := by
 have HP := zA hP
 have HD := zA hD
 have hwr : IntKind.i64.wrap (l - 1) = l - 1 := by rw [IntKind.wrap_i64]; omega
 clear hP hD
 generalize hM : P ++ [(⟨a, g, q, m, y⟩ : TP)] = M
 have HM := zA hM
 clear hM
 go_enter Tryz.func181, Tryz.ntmps181
 go_wp2_with fail
 have HB := zA ((((((zL.nil w).more (.cells #[.int .i64 i, .int .i64 z, .int .i64 q, .slice oa P.length ca, .int .i64 v, .slice od D.length cd, .int .i64 l, .int .i64 u] 166) (by simp)).more (.cells #[.int .i64 a, .int .i64 g, .int .i64 q, .int .i64 m, .int .i64 y] 79) (by simp)).more (.cells #[.int .i64 0, .int .i64 0, .int .i64 0, .slice none 0 0, .int .i64 0, .slice none 0 0, .int .i64 0, .int .i64 0] 58) (by simp)).more (.cells #[.int .i64 a, .int .i64 g, .int .i64 q, .int .i64 m, .int .i64 y] 79) (by simp)).more (.cells #[.slice oa P.length ca, .slice (some ⟨w.heap.size + 1 + 1 + 1, 0, none⟩) 1 1] 23) (by simp))
 refine (concatP_any [(oa, P, ca), (some ⟨w.heap.size + 1 + 1 + 1, 0, none⟩, [(⟨a, g, q, m, y⟩ : TP)], 1)] _ 2 _ ?_ (by simp) (by simp [xO]; omega)).mono ?_
 ·intro n o L cap hq
  match n, hq with
  | 0, hq =>
   simp at hq
   obtain ⟨rfl, rfl, rfl⟩ := hq
   exact ⟨HB.out.cell 4 0 _ _ _ _ rfl rfl rfl, HP.out.below HB.out.2.2, hn⟩
  | 1, hq =>
   simp at hq
   obtain ⟨rfl, rfl, rfl⟩ := hq
   exact ⟨HB.out.cell 4 1 _ _ _ _ rfl rfl rfl, tapsAt_one ⟨HB.out.cell 3 0 _ _ _ _ rfl rfl rfl, HB.out.cell 3 1 _ _ _ _ rfl rfl rfl, HB.out.cell 3 2 _ _ _ _ rfl rfl rfl, HB.out.cell 3 3 _ _ _ _ rfl rfl rfl, HB.out.cell 3 4 _ _ _ _ rfl rfl rfl⟩, fun h => by cases h⟩
  | n + 2, hq => simp at hq
 rintro e w1 ⟨⟨v1, rfl, hv1, hf1⟩, hb1⟩
 replace hv1 : zR w1 v1 M := by simpa [HM.out] using hv1
 obtain ⟨o1, c1, rfl, ha⟩ := hv1
 have hf1' := hf1.monoD (show w.heap.size + 1 + 1 + 1 ≤ _ from by simp)
 have HV1 := zA (And.intro (show zR w1 (.slice o1 M.length c1) M from ⟨o1, c1, rfl, ha⟩) hf1')
 have HB1 : Hid (zL w w1 [.cells #[.int .i64 i, .int .i64 z, .int .i64 q, .slice oa P.length ca, .int .i64 v, .slice od D.length cd, .int .i64 l, .int .i64 u] 166, .cells #[.int .i64 a, .int .i64 g, .int .i64 q, .int .i64 m, .int .i64 y] 79, .cells #[.int .i64 0, .int .i64 0, .int .i64 0, .slice none 0 0, .int .i64 0, .slice none 0 0, .int .i64 0, .int .i64 0] 58, .cells #[.int .i64 a, .int .i64 g, .int .i64 q, .int .i64 m, .int .i64 y] 79, .cells #[.slice oa P.length ca, .slice (some ⟨w.heap.size + 1 + 1 + 1, 0, none⟩) 1 1] 23]) := zA (HB.out.on hb1)
 clear hb1 ha hf1 hf1' HB
 obtain ⟨x0, x1, x2, x3, x4, x5, x6, x7⟩ := HB1.out.c8 0 w.heap.size rfl rfl rfl rfl rfl rfl rfl rfl rfl rfl
 obtain ⟨fx0, fx1, fx2, fx3, fx4, fx5, fx6, fx7⟩ := HB1.out.z8 0 w.heap.size rfl rfl
 go_wp2_with fail
 have HB2 : Hid (zL w (w1.setCell ⟨w.heap.size, 3, none⟩ (.slice o1 M.length c1)) [.cells #[.int .i64 i, .int .i64 z, .int .i64 q, .slice o1 M.length c1, .int .i64 v, .slice od D.length cd, .int .i64 l, .int .i64 u] 166, .cells #[.int .i64 a, .int .i64 g, .int .i64 q, .int .i64 m, .int .i64 y] 79, .cells #[.int .i64 0, .int .i64 0, .int .i64 0, .slice none 0 0, .int .i64 0, .slice none 0 0, .int .i64 0, .int .i64 0] 58, .cells #[.int .i64 a, .int .i64 g, .int .i64 q, .int .i64 m, .int .i64 y] 79, .cells #[.slice oa P.length ca, .slice (some ⟨w.heap.size + 1 + 1 + 1, 0, none⟩) 1 1] 23]) := zA (HB1.out.put 0 3 w.heap.size _ _ _ rfl rfl)
 have HV2 := zA (HV1.out.1.setD HV1.out.2 (p := ⟨w.heap.size, 3, none⟩) (by simp; omega) (.slice o1 M.length c1))
 refine (jL D od cd _ (HD.out.below HB2.out.2.2) (by omega)).mono ?_
 rintro e w2 ⟨⟨v2, rfl, ⟨o2, c2, rfl, hc⟩, hf2⟩, hb2⟩
 have hsz2 := HB2.out.2.1
 simp only [List.length_cons, List.length_nil] at hsz2
 have HV3 := zA (And.intro (show zP w2 (.slice o2 D.length c2) D from ⟨o2, c2, rfl, hc⟩) (hf2.monoD (show w.heap.size + 1 + 1 + 1 ≤ _ by omega)))
 have HV4 := zA (And.intro (HV2.out.below hb2) HV1.out.2)
 have HB3 : Hid (zL w w2 [.cells #[.int .i64 i, .int .i64 z, .int .i64 q, .slice o1 M.length c1, .int .i64 v, .slice od D.length cd, .int .i64 l, .int .i64 u] 166, .cells #[.int .i64 a, .int .i64 g, .int .i64 q, .int .i64 m, .int .i64 y] 79, .cells #[.int .i64 0, .int .i64 0, .int .i64 0, .slice none 0 0, .int .i64 0, .slice none 0 0, .int .i64 0, .int .i64 0] 58, .cells #[.int .i64 a, .int .i64 g, .int .i64 q, .int .i64 m, .int .i64 y] 79, .cells #[.slice oa P.length ca, .slice (some ⟨w.heap.size + 1 + 1 + 1, 0, none⟩) 1 1] 23]) := zA (HB2.out.on hb2)
 clear hb2 hc hf2 hsz2 HB1 HB2 HV1 HV2
 clear x0 x1 x2 x3 x4 x5 x6 x7 fx0 fx1 fx2 fx3 fx4 fx5 fx6 fx7
 obtain ⟨x0, x1, x2, x3, x4, x5, x6, x7⟩ := HB3.out.c8 0 w.heap.size rfl rfl rfl rfl rfl rfl rfl rfl rfl rfl
 obtain ⟨fx0, fx1, fx2, fx3, fx4, fx5, fx6, fx7⟩ := HB3.out.z8 0 w.heap.size rfl rfl
 obtain ⟨r0, r1, r2, r3, r4, r5, r6, r7⟩ := HB3.out.c8 2 (w.heap.size + 1 + 1) rfl rfl rfl rfl rfl rfl rfl rfl rfl rfl
 obtain ⟨fr0, fr1, fr2, fr3, fr4, fr5, fr6, fr7⟩ := HB3.out.z8 2 (w.heap.size + 1 + 1) rfl rfl
 go_wp2_with fail
 refine bodyPost_ret (v := gtV i z q o1 M.length c1 v o2 D.length c2 (l - 1) u) (by simp [results, Tryz.results181, go_sem, *]) rfl ⟨⟨_, rfl, ⟨o1, c1, o2, c2, rfl, ?_, HV4.out.2.monoD (by omega), ?_, HV3.out.2.monoD (by omega)⟩⟩, ?_⟩
 ·repeat (first | with_reducible exact HV4.out.1 | with_reducible refine zR.setD ?_ HV4.out.2 (by simp; try omega) _)
 ·repeat (first | with_reducible exact HV3.out.1 | with_reducible refine zP.setD ?_ HV3.out.2 (by simp; try omega) _)
 ·repeat (first | with_reducible refine Below.setCell ?_ (by simp; try omega) _ | exact HB3.out.2.2)
theorem jN.setne {w : World} {b : Nat} {x : TP} (h : jN w ⟨b, 0, none⟩ x) (p : Addr) (hne : p.block ≠ b) (u : Value) : jN (w.setCell p u) ⟨b, 0, none⟩ x :=
 ⟨zX hne h.c0, zX hne h.c1, zX hne h.c2, zX hne h.c3, zX hne h.c4⟩
theorem zL.put8 {w w1 : World} {os : List Obj} (h : zL w w1 os) (n b : Nat) (a0 a1 a2 a3 a4 a5 a6 a7 x0 x1 x2 x3 x4 x5 x6 x7 : Value) (T : TypeId) (hi : os[n]? = some (.cells #[a0, a1, a2, a3, a4, a5, a6, a7] T)) (hb : b = w.heap.size + n) :
  zL w ((((((((w1.setCell ⟨b, 0, none⟩ (x0)).setCell ⟨b, 1, none⟩ (x1)).setCell ⟨b, 2, none⟩ (x2)).setCell ⟨b, 3, none⟩ (x3)).setCell ⟨b, 4, none⟩ (x4)).setCell ⟨b, 5, none⟩ (x5)).setCell ⟨b, 6, none⟩ (x6)).setCell ⟨b, 7, none⟩ (x7)) (os.set n (.cells #[x0, x1, x2, x3, x4, x5, x6, x7] T)) := by
 have hn := (List.getElem?_eq_some_iff.1 hi).1
 have h0 := h.put n 0 b _ T x0 hi hb
 have h1 := h0.put n 1 b #[x0, a1, a2, a3, a4, a5, a6, a7] T x1 (by rw [List.getElem?_set_self hn]; rfl) hb
 rw [List.set_set] at h1
 have h2 := h1.put n 2 b #[x0, x1, a2, a3, a4, a5, a6, a7] T x2 (by rw [List.getElem?_set_self hn]; rfl) hb
 rw [List.set_set] at h2
 have h3 := h2.put n 3 b #[x0, x1, x2, a3, a4, a5, a6, a7] T x3 (by rw [List.getElem?_set_self hn]; rfl) hb
 rw [List.set_set] at h3
 have h4 := h3.put n 4 b #[x0, x1, x2, x3, a4, a5, a6, a7] T x4 (by rw [List.getElem?_set_self hn]; rfl) hb
 rw [List.set_set] at h4
 have h5 := h4.put n 5 b #[x0, x1, x2, x3, x4, a5, a6, a7] T x5 (by rw [List.getElem?_set_self hn]; rfl) hb
 rw [List.set_set] at h5
 have h6 := h5.put n 6 b #[x0, x1, x2, x3, x4, x5, a6, a7] T x6 (by rw [List.getElem?_set_self hn]; rfl) hb
 rw [List.set_set] at h6
 have h7 := h6.put n 7 b #[x0, x1, x2, x3, x4, x5, x6, a7] T x7 (by rw [List.getElem?_set_self hn]; rfl) hb
 rw [List.set_set] at h7
 exact h7
theorem zL.put5 {w w1 : World} {os : List Obj} (h : zL w w1 os) (n b : Nat) (a0 a1 a2 a3 a4 x0 x1 x2 x3 x4 : Value) (T : TypeId) (hi : os[n]? = some (.cells #[a0, a1, a2, a3, a4] T)) (hb : b = w.heap.size + n) :
  zL w (((((w1.setCell ⟨b, 0, none⟩ (x0)).setCell ⟨b, 1, none⟩ (x1)).setCell ⟨b, 2, none⟩ (x2)).setCell ⟨b, 3, none⟩ (x3)).setCell ⟨b, 4, none⟩ (x4)) (os.set n (.cells #[x0, x1, x2, x3, x4] T)) := by
 have hn := (List.getElem?_eq_some_iff.1 hi).1
 have h0 := h.put n 0 b _ T x0 hi hb
 have h1 := h0.put n 1 b #[x0, a1, a2, a3, a4] T x1 (by rw [List.getElem?_set_self hn]; rfl) hb
 rw [List.set_set] at h1
 have h2 := h1.put n 2 b #[x0, x1, a2, a3, a4] T x2 (by rw [List.getElem?_set_self hn]; rfl) hb
 rw [List.set_set] at h2
 have h3 := h2.put n 3 b #[x0, x1, x2, a3, a4] T x3 (by rw [List.getElem?_set_self hn]; rfl) hb
 rw [List.set_set] at h3
 have h4 := h3.put n 4 b #[x0, x1, x2, x3, a4] T x4 (by rw [List.getElem?_set_self hn]; rfl) hb
 rw [List.set_set] at h4
 exact h4
def tapG (i z s : Int) (P : List TP) (v : Int) (D : List Int) (l u : Int) (x : TK) (m : Int) : Int :=
 if unfG i z s P v D l u x m = 0 then (if shutG D u z x m = 0 then (if spentG P l x = true then 10 else if fullG P.length s = true then 2 else 0) else shutG D u z x m) else unfG i z s P v D l u x m
theorem tapG_ways (i z s : Int) (P : List TP) (v : Int) (D : List Int) (l u : Int) (x : TK) (m : Int) : ((unfG i z s P v D l u x m != 0) = true ∧ tapG i z s P v D l u x m = unfG i z s P v D l u x m) ∨ (unfG i z s P v D l u x m = 0 ∧ (shutG D u z x m != 0) = true ∧ tapG i z s P v D l u x m = shutG D u z x m) ∨
  (unfG i z s P v D l u x m = 0 ∧ shutG D u z x m = 0 ∧ spentG P l x = true ∧ tapG i z s P v D l u x m = 10) ∨ (unfG i z s P v D l u x m = 0 ∧ shutG D u z x m = 0 ∧ spentG P l x = false ∧ fullG P.length s = true ∧ tapG i z s P v D l u x m = 2) ∨
  (unfG i z s P v D l u x m = 0 ∧ shutG D u z x m = 0 ∧ spentG P l x = false ∧ fullG P.length s = false ∧ tapG i z s P v D l u x m = 0) := by
 rw [tapG]
 by_cases h1 : unfG i z s P v D l u x m = 0
 ·by_cases h2 : shutG D u z x m = 0
  ·cases spentG P l x <;> cases fullG P.length s <;> simp [h1, h2]
  ·simp [h1, h2]
 ·simp [h1]
theorem unfG_right {i z s : Int} {P : List TP} {v : Int} {D : List Int} {l u : Int} {x : TK} {m : Int} (h : unfG i z s P v D l u x m = 0) : xH i z s P v D l u = 0 ∧ jV x = 0 ∧ wi m 0 9999 = true ∧ earlyG P m = false := by
 rcases unfG_ways i z s P v D l u x m with ⟨h1, h2⟩ | ⟨h1, h2, h3⟩ | ⟨h1, h2, h3, h4⟩ | ⟨h1, h2, h3, h4, h5⟩ | ⟨h1, h2, h3, h4, h5⟩
 ·rw [h2] at h; rw [h] at h1; cases h1
 ·rw [h3] at h; rw [h] at h2; cases h2
 ·omega
 ·omega
 ·exact ⟨h1, h2, h3, h4⟩
theorem qW {i z s : Int} {P : List TP} {v : Int} {D : List Int} {l u : Int} {ti k f t y r m : Int} (h : unfG i z s P v D l u ⟨ti, k, f, t, y, r⟩ m = 0) : unfD v D ti = 0 ∧ 0 ≤ y ∧ y ≤ 15 ∧ isZ z = true ∧ 0 ≤ s ∧ s ≤ 99 ∧ P.length ≤ 12 ∧ D.length ≤ 12 ∧ 0 ≤ l ∧ l ≤ 9 := by
 obtain ⟨h1, h2, -, -⟩ := unfG_right h
 obtain ⟨g1, -, g3, g4⟩ := jQ h1
 have e1 := errS_right g1
 have e2 := yE g3
 have e3 := chk_right (show chk ti k f t y r = 0 from h2)
 have e4 : wi l 0 9 = true := by
  rw [errB] at g4
  cases hw : wi l 0 9
  ·rw [hw] at g4; simp at g4
  ·rfl
 rw [yO] at e4
 exact ⟨by rw [unfD, if_pos g3, (yO ti 1 9999).2 ⟨e3.1.1, e3.1.2⟩, if_pos rfl], by omega, by omega, e1.2.2.1, e1.2.1.1, e1.2.1.2, e1.2.2.2, e2.2.2.1, e4.1, e4.2⟩
theorem gateTap_err (i z s : Int) (oa : Option Addr) (P : List TP) (ca : Nat) (v : Int) (od : Option Addr) (D : List Int) (cd : Nat) (l u : Int) (ti k f t y r m : Int) (w : World) (hP : zI w oa P) (hD : zH w od D) (hlP : P.length ≤ 9223372036854775807) (hlD : D.length ≤ 9223372036854775807) (hE : tapG i z s P v D l u ⟨ti, k, f, t, y, r⟩ m ≠ 0) :
  Calls Tryz.prog 150 #[gtV i z s oa P.length ca v od D.length cd l u, tk ti k f t y r, .int .i64 m] w fun e w' => e = .returned (.tuple #[gtV 0 0 0 none 0 0 0 none 0 0 0 0, tp 0 0 0 0 0, .int .i64 (tapG i z s P v D l u ⟨ti, k, f, t, y, r⟩ m)]) ∧ Below w.heap.size w w' := by
 have HU := zA (fun W (h : zI W oa P) (h' : zH W od D) => gateUnfit_any i z s oa P ca v od D cd l u ti k f t y r m W h h' hlD)
 have HS := zA (fun W (h0 : unfG i z s P v D l u ⟨ti, k, f, t, y, r⟩ m = 0) (h' : zH W od D) => gateShut_any i z s oa P ca v od D cd l u ti k f t y r m W h' hlD (qW h0).1 (qW h0).2.1 (qW h0).2.2.1 (qW h0).2.2.2.1)
 have HN := zA (fun W (h : zI W oa P) => gateSpent_any i z s oa P ca v od D cd l u ti k f t y r W h hlP)
 have HF := zA (fun W => fullG_any i z s oa P.length ca v od D.length cd l u W)
 have HP := zA hP
 have HD := zA hD
 clear hP hD
 have hp := tapG_ways i z s P v D l u ⟨ti, k, f, t, y, r⟩ m
 generalize tapG i z s P v D l u ⟨ti, k, f, t, y, r⟩ m = E at *
 generalize unfG i z s P v D l u ⟨ti, k, f, t, y, r⟩ m = X1 at *
 generalize shutG D u z ⟨ti, k, f, t, y, r⟩ m = X2 at *
 generalize spentG P l ⟨ti, k, f, t, y, r⟩ = X3 at *
 generalize fullG P.length s = X4 at *
 rcases hp with ⟨h1, rfl⟩ | ⟨rfl, h1, rfl⟩ | ⟨rfl, rfl, rfl, rfl⟩ | ⟨rfl, rfl, rfl, rfl, rfl⟩ | ⟨-, -, -, -, rfl⟩
 rotate_left 4
 ·exact absurd rfl hE
 all_goals
  clear hE
  go_enter Tryz.func150, Tryz.ntmps150
  go_wp2_with fail
  have HG1 := zA ((((((zL.nil w).more (.cells #[.int .i64 i, .int .i64 z, .int .i64 s, .slice oa P.length ca, .int .i64 v, .slice od D.length cd, .int .i64 l, .int .i64 u] 58) (by simp)).more (.cells #[.int .i64 ti, .int .i64 k, .int .i64 f, .int .i64 t, .int .i64 y, .int .i64 r] 34) (by simp)).more (.cells #[.int .i64 0, .int .i64 0, .int .i64 0, .slice none 0 0, .int .i64 0, .slice none 0 0, .int .i64 0, .int .i64 0] 58) (by simp)).more (.cells #[.int .i64 0, .int .i64 0, .int .i64 0, .int .i64 0, .int .i64 0] 79) (by simp)).more (.cells #[.int .i64 i, .int .i64 z, .int .i64 s, .slice oa P.length ca, .int .i64 v, .slice od D.length cd, .int .i64 l, .int .i64 u] 166) (by simp))
  refine (HU.out _ (HP.out.below HG1.out.2.2) (HD.out.below HG1.out.2.2)).mono ?_
  rintro e w1 ⟨rfl, hb⟩
  have HG1w1 := zA (HG1.out.on hb)
  clear hb HG1
  have lG1_1 := HG1w1.out.lt 1 (w.heap.size + 1) (by simp) rfl
  obtain ⟨cG1_1_0, cG1_1_1, cG1_1_2, cG1_1_3, cG1_1_4, cG1_1_5⟩ := HG1w1.out.c6 1 (w.heap.size + 1) rfl rfl rfl rfl rfl rfl rfl rfl
  have lG1_2 := HG1w1.out.lt 2 (w.heap.size + 1 + 1) (by simp) rfl
  obtain ⟨cG1_2_0, cG1_2_1, cG1_2_2, cG1_2_3, cG1_2_4, cG1_2_5, cG1_2_6, cG1_2_7⟩ := HG1w1.out.c8 2 (w.heap.size + 1 + 1) rfl rfl rfl rfl rfl rfl rfl rfl rfl rfl
  obtain ⟨fG1_2_0, fG1_2_1, fG1_2_2, fG1_2_3, fG1_2_4, fG1_2_5, fG1_2_6, fG1_2_7⟩ := HG1w1.out.z8 2 (w.heap.size + 1 + 1) rfl rfl
  have lG1_3 := HG1w1.out.lt 3 (w.heap.size + 1 + 1 + 1) (by simp) rfl
  obtain ⟨cG1_3_0, cG1_3_1, cG1_3_2, cG1_3_3, cG1_3_4⟩ := HG1w1.out.c5 3 (w.heap.size + 1 + 1 + 1) rfl rfl rfl rfl rfl rfl rfl
  obtain ⟨fG1_3_0, fG1_3_1, fG1_3_2, fG1_3_3, fG1_3_4⟩ := HG1w1.out.z5 3 (w.heap.size + 1 + 1 + 1) rfl rfl
  have lG1_4 := HG1w1.out.lt 4 (w.heap.size + 1 + 1 + 1 + 1) (by simp) rfl
  obtain ⟨cG1_4_0, cG1_4_1, cG1_4_2, cG1_4_3, cG1_4_4, cG1_4_5, cG1_4_6, cG1_4_7⟩ := HG1w1.out.c8 4 (w.heap.size + 1 + 1 + 1 + 1) rfl rfl rfl rfl rfl rfl rfl rfl rfl rfl
  go_wp2_with fail
 ·refine bodyPost_ret (v := .tuple #[gtV 0 0 0 none 0 0 0 none 0 0 0 0, tp 0 0 0 0 0, .int .i64 E]) (by simp [results, Tryz.results150, go_sem, *]) rfl ⟨rfl, ?_⟩
  repeat (first | with_reducible refine Below.setCell ?_ (by simp; try omega) _ | exact HG1w1.out.2.2)
 all_goals
  refine (HS.out _ trivial (HD.out.below HG1w1.out.2.2)).mono ?_
  rintro e w2 ⟨rfl, hb⟩
  have HG1w2 := zA (HG1w1.out.on hb)
  clear lG1_1 cG1_1_0 cG1_1_1 cG1_1_2 cG1_1_3 cG1_1_4 cG1_1_5 lG1_2 cG1_2_0 fG1_2_0 cG1_2_1 fG1_2_1 cG1_2_2 fG1_2_2 cG1_2_3 fG1_2_3 cG1_2_4 fG1_2_4 cG1_2_5 fG1_2_5 cG1_2_6 fG1_2_6 cG1_2_7 fG1_2_7 lG1_3 cG1_3_0 fG1_3_0 cG1_3_1 fG1_3_1 cG1_3_2 fG1_3_2 cG1_3_3 fG1_3_3 cG1_3_4 fG1_3_4 lG1_4 cG1_4_0 cG1_4_1 cG1_4_2 cG1_4_3 cG1_4_4 cG1_4_5 cG1_4_6 cG1_4_7
  clear hb HG1w1
  have lG1_1 := HG1w2.out.lt 1 (w.heap.size + 1) (by simp) rfl
  obtain ⟨cG1_1_0, cG1_1_1, cG1_1_2, cG1_1_3, cG1_1_4, cG1_1_5⟩ := HG1w2.out.c6 1 (w.heap.size + 1) rfl rfl rfl rfl rfl rfl rfl rfl
  have lG1_2 := HG1w2.out.lt 2 (w.heap.size + 1 + 1) (by simp) rfl
  obtain ⟨cG1_2_0, cG1_2_1, cG1_2_2, cG1_2_3, cG1_2_4, cG1_2_5, cG1_2_6, cG1_2_7⟩ := HG1w2.out.c8 2 (w.heap.size + 1 + 1) rfl rfl rfl rfl rfl rfl rfl rfl rfl rfl
  obtain ⟨fG1_2_0, fG1_2_1, fG1_2_2, fG1_2_3, fG1_2_4, fG1_2_5, fG1_2_6, fG1_2_7⟩ := HG1w2.out.z8 2 (w.heap.size + 1 + 1) rfl rfl
  have lG1_3 := HG1w2.out.lt 3 (w.heap.size + 1 + 1 + 1) (by simp) rfl
  obtain ⟨cG1_3_0, cG1_3_1, cG1_3_2, cG1_3_3, cG1_3_4⟩ := HG1w2.out.c5 3 (w.heap.size + 1 + 1 + 1) rfl rfl rfl rfl rfl rfl rfl
  obtain ⟨fG1_3_0, fG1_3_1, fG1_3_2, fG1_3_3, fG1_3_4⟩ := HG1w2.out.z5 3 (w.heap.size + 1 + 1 + 1) rfl rfl
  have lG1_4 := HG1w2.out.lt 4 (w.heap.size + 1 + 1 + 1 + 1) (by simp) rfl
  obtain ⟨cG1_4_0, cG1_4_1, cG1_4_2, cG1_4_3, cG1_4_4, cG1_4_5, cG1_4_6, cG1_4_7⟩ := HG1w2.out.c8 4 (w.heap.size + 1 + 1 + 1 + 1) rfl rfl rfl rfl rfl rfl rfl rfl rfl rfl
  go_wp2_with fail
 ·refine bodyPost_ret (v := .tuple #[gtV 0 0 0 none 0 0 0 none 0 0 0 0, tp 0 0 0 0 0, .int .i64 E]) (by simp [results, Tryz.results150, go_sem, *]) rfl ⟨rfl, ?_⟩
  repeat (first | with_reducible refine Below.setCell ?_ (by simp; try omega) _ | exact HG1w2.out.2.2)
 all_goals
  refine (HN.out _ (HP.out.below HG1w2.out.2.2)).mono ?_
  rintro e w3 ⟨rfl, hb⟩
  have HG1w3 := zA (HG1w2.out.on hb)
  clear lG1_1 cG1_1_0 cG1_1_1 cG1_1_2 cG1_1_3 cG1_1_4 cG1_1_5 lG1_2 cG1_2_0 fG1_2_0 cG1_2_1 fG1_2_1 cG1_2_2 fG1_2_2 cG1_2_3 fG1_2_3 cG1_2_4 fG1_2_4 cG1_2_5 fG1_2_5 cG1_2_6 fG1_2_6 cG1_2_7 fG1_2_7 lG1_3 cG1_3_0 fG1_3_0 cG1_3_1 fG1_3_1 cG1_3_2 fG1_3_2 cG1_3_3 fG1_3_3 cG1_3_4 fG1_3_4 lG1_4 cG1_4_0 cG1_4_1 cG1_4_2 cG1_4_3 cG1_4_4 cG1_4_5 cG1_4_6 cG1_4_7
  clear hb HG1w2
  have lG1_1 := HG1w3.out.lt 1 (w.heap.size + 1) (by simp) rfl
  obtain ⟨cG1_1_0, cG1_1_1, cG1_1_2, cG1_1_3, cG1_1_4, cG1_1_5⟩ := HG1w3.out.c6 1 (w.heap.size + 1) rfl rfl rfl rfl rfl rfl rfl rfl
  have lG1_2 := HG1w3.out.lt 2 (w.heap.size + 1 + 1) (by simp) rfl
  obtain ⟨cG1_2_0, cG1_2_1, cG1_2_2, cG1_2_3, cG1_2_4, cG1_2_5, cG1_2_6, cG1_2_7⟩ := HG1w3.out.c8 2 (w.heap.size + 1 + 1) rfl rfl rfl rfl rfl rfl rfl rfl rfl rfl
  obtain ⟨fG1_2_0, fG1_2_1, fG1_2_2, fG1_2_3, fG1_2_4, fG1_2_5, fG1_2_6, fG1_2_7⟩ := HG1w3.out.z8 2 (w.heap.size + 1 + 1) rfl rfl
  have lG1_3 := HG1w3.out.lt 3 (w.heap.size + 1 + 1 + 1) (by simp) rfl
  obtain ⟨cG1_3_0, cG1_3_1, cG1_3_2, cG1_3_3, cG1_3_4⟩ := HG1w3.out.c5 3 (w.heap.size + 1 + 1 + 1) rfl rfl rfl rfl rfl rfl rfl
  obtain ⟨fG1_3_0, fG1_3_1, fG1_3_2, fG1_3_3, fG1_3_4⟩ := HG1w3.out.z5 3 (w.heap.size + 1 + 1 + 1) rfl rfl
  have lG1_4 := HG1w3.out.lt 4 (w.heap.size + 1 + 1 + 1 + 1) (by simp) rfl
  obtain ⟨cG1_4_0, cG1_4_1, cG1_4_2, cG1_4_3, cG1_4_4, cG1_4_5, cG1_4_6, cG1_4_7⟩ := HG1w3.out.c8 4 (w.heap.size + 1 + 1 + 1 + 1) rfl rfl rfl rfl rfl rfl rfl rfl rfl rfl
  go_wp2_with fail
 ·refine bodyPost_ret (v := .tuple #[gtV 0 0 0 none 0 0 0 none 0 0 0 0, tp 0 0 0 0 0, .int .i64 10]) (by simp [results, Tryz.results150, go_sem, *]) rfl ⟨rfl, ?_⟩
  repeat (first | with_reducible refine Below.setCell ?_ (by simp; try omega) _ | exact HG1w3.out.2.2)
 ·refine (HF.out _).mono ?_
  rintro e w4 ⟨rfl, hb⟩
  have HG1w4 := zA (HG1w3.out.on hb)
  clear lG1_1 cG1_1_0 cG1_1_1 cG1_1_2 cG1_1_3 cG1_1_4 cG1_1_5 lG1_2 cG1_2_0 fG1_2_0 cG1_2_1 fG1_2_1 cG1_2_2 fG1_2_2 cG1_2_3 fG1_2_3 cG1_2_4 fG1_2_4 cG1_2_5 fG1_2_5 cG1_2_6 fG1_2_6 cG1_2_7 fG1_2_7 lG1_3 cG1_3_0 fG1_3_0 cG1_3_1 fG1_3_1 cG1_3_2 fG1_3_2 cG1_3_3 fG1_3_3 cG1_3_4 fG1_3_4 lG1_4 cG1_4_0 cG1_4_1 cG1_4_2 cG1_4_3 cG1_4_4 cG1_4_5 cG1_4_6 cG1_4_7
  clear hb HG1w3
  have lG1_1 := HG1w4.out.lt 1 (w.heap.size + 1) (by simp) rfl
  obtain ⟨cG1_1_0, cG1_1_1, cG1_1_2, cG1_1_3, cG1_1_4, cG1_1_5⟩ := HG1w4.out.c6 1 (w.heap.size + 1) rfl rfl rfl rfl rfl rfl rfl rfl
  have lG1_2 := HG1w4.out.lt 2 (w.heap.size + 1 + 1) (by simp) rfl
  obtain ⟨cG1_2_0, cG1_2_1, cG1_2_2, cG1_2_3, cG1_2_4, cG1_2_5, cG1_2_6, cG1_2_7⟩ := HG1w4.out.c8 2 (w.heap.size + 1 + 1) rfl rfl rfl rfl rfl rfl rfl rfl rfl rfl
  obtain ⟨fG1_2_0, fG1_2_1, fG1_2_2, fG1_2_3, fG1_2_4, fG1_2_5, fG1_2_6, fG1_2_7⟩ := HG1w4.out.z8 2 (w.heap.size + 1 + 1) rfl rfl
  have lG1_3 := HG1w4.out.lt 3 (w.heap.size + 1 + 1 + 1) (by simp) rfl
  obtain ⟨cG1_3_0, cG1_3_1, cG1_3_2, cG1_3_3, cG1_3_4⟩ := HG1w4.out.c5 3 (w.heap.size + 1 + 1 + 1) rfl rfl rfl rfl rfl rfl rfl
  obtain ⟨fG1_3_0, fG1_3_1, fG1_3_2, fG1_3_3, fG1_3_4⟩ := HG1w4.out.z5 3 (w.heap.size + 1 + 1 + 1) rfl rfl
  have lG1_4 := HG1w4.out.lt 4 (w.heap.size + 1 + 1 + 1 + 1) (by simp) rfl
  obtain ⟨cG1_4_0, cG1_4_1, cG1_4_2, cG1_4_3, cG1_4_4, cG1_4_5, cG1_4_6, cG1_4_7⟩ := HG1w4.out.c8 4 (w.heap.size + 1 + 1 + 1 + 1) rfl rfl rfl rfl rfl rfl rfl rfl rfl rfl
  go_wp2_with fail
  refine bodyPost_ret (v := .tuple #[gtV 0 0 0 none 0 0 0 none 0 0 0 0, tp 0 0 0 0 0, .int .i64 2]) (by simp [results, Tryz.results150, go_sem, *]) rfl ⟨rfl, ?_⟩
  repeat (first | with_reducible refine Below.setCell ?_ (by simp; try omega) _ | exact HG1w4.out.2.2)
end
end Go.Proofs.YtgidebfgcbkkkaaGreat
