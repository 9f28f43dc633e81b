/-
  'Enter' (package ledger).
-/
import Derived.Test.YtcakfmpckbmdeabS1
import Derived.Test.YtcakfmpckbmdeabH2
import Derived.Test.YtcakfmpckbmdeabP5
namespace Go.Proofs.Ytcakfmpckbmdeab
open Go.RowKit

/-- what Enter says of a tap: a verdict, and an error -/
def enterV (T : List TK) (P : List TP) (V : List Int) (p : TP) : Int × Int :=
  if chkL T P V ≠ 0 then (0, chkL T P V) else if unf T P p ≠ 0 then (0, unf T P p) else if earlyB P p.m = true then (0, 4)
  else if (judB T (P.zip V) p).2 ≠ 0 then judB T (P.zip V) p else if P.length = 60 then (0, 2) else ((judB T (P.zip V) p).1, 0)

/-- the boxes of Enter -/
def BoxesE (w w1 : World) (o1 o2 o3 : Option Addr) (n1 c1 n2 c2 n3 c3 : Nat) (p : TP) : Prop :=
  Led3 w1 w.heap.size o1 o2 o3 n1 c1 n2 c2 n3 c3 ∧ Tap5 w1 ⟨w.heap.size + 1, 0, none⟩ p ∧ w1.heap[w.heap.size + 1 + 1]? = some (cL none none none 0 0 0 0 0 0 43) ∧ w.heap.size + 1 + 1 < w1.heap.size ∧ Below w.heap.size w w1

theorem boxesE_of (o1 o2 o3 : Option Addr) (n1 c1 n2 c2 n3 c3 : Nat) (a g s m z : Int) (w w1 : World) (h : Below (((w.alloc (cL o1 o2 o3 n1 c1 n2 c2 n3 c3 43)).alloc (cP a g s m z 32)).alloc (cL none none none 0 0 0 0 0 0 43)).heap.size (((w.alloc (cL o1 o2 o3 n1 c1 n2 c2 n3 c3 43)).alloc (cP a g s m z 32)).alloc (cL none none none 0 0 0 0 0 0 43)) w1) :
    BoxesE w w1 o1 o2 o3 n1 c1 n2 c2 n3 c3 ⟨a, g, s, m, z⟩ := by
  have s1 := h.size
  simp at s1
  refine ⟨Led3.below (w := ((w.alloc (cL o1 o2 o3 n1 c1 n2 c2 n3 c3 43)).alloc (cP a g s m z 32)).alloc (cL none none none 0 0 0 0 0 0 43)) ⟨?_, ?_, ?_⟩ h (by simp; omega), Tap5.below (w := ((w.alloc (cL o1 o2 o3 n1 c1 n2 c2 n3 c3 43)).alloc (cP a g s m z 32)).alloc (cL none none none 0 0 0 0 0 0 43)) ⟨?_, ?_, ?_, ?_, ?_⟩ h (by simp), ?_, by omega,
    Below.trans ((((Below.refl _ _).alloc (Nat.le_refl _) _).alloc (by simp) _).alloc (by simp; omega) _) (h.mono (by simp; omega))⟩
  all_goals first | (rw [h.block _ (by simp)]; exact heap_alloc_new' _ _ _ (by simp)) | simp [go_sem]

theorem BoxesE.on {w w1 w2 : World} {o1 o2 o3 : Option Addr} {n1 c1 n2 c2 n3 c3 : Nat} {p : TP} (h : BoxesE w w1 o1 o2 o3 n1 c1 n2 c2 n3 c3 p) (hb : Below w1.heap.size w1 w2) : BoxesE w w2 o1 o2 o3 n1 c1 n2 c2 n3 c3 p :=
  ⟨h.1.below hb h.1.lt, h.2.1.below hb h.2.1.lt, by rw [hb.block _ h.2.2.2.1]; exact h.2.2.1, Nat.lt_of_lt_of_le h.2.2.2.1 hb.size, h.2.2.2.2.trans (hb.mono h.2.2.2.2.size)⟩

/-- a new ledger -/
def LedF (B : Nat) (w : World) (v : Value) (T : List TK) (P : List TP) (V : List Int) : Prop :=
  ∃ oa ca ob cb oc cc, v = lg oa ob oc T.length ca P.length cb V.length cc ∧ (TiksV w (.slice oa T.length ca) T ∧ Fresh B (.slice oa T.length ca)) ∧ (TapsV w (.slice ob P.length cb) P ∧ Fresh B (.slice ob P.length cb)) ∧ (IntsV w (.slice oc V.length cc) V ∧ Fresh B (.slice oc V.length cc))

theorem LedF.below {B : Nat} {w w' : World} {v : Value} {T : List TK} {P : List TP} {V : List Int} (h : LedF B w v T P V) (hb : Below w.heap.size w w') : LedF B w' v T P V :=
  have ⟨oa, ca, ob, cb, oc, cc, e, h1, h2, h3⟩ := h; ⟨oa, ca, ob, cb, oc, cc, e, ⟨h1.1.below hb, h1.2⟩, ⟨h2.1.below hb, h2.2⟩, ⟨h3.1.below hb, h3.2⟩⟩

/-- what each operation of the region that makes a new ledger leaves -/
def phiE (n B : Nat) (o1 o2 o3 : Option Addr) (c1 c2 c3 : Nat) (T : List TK) (P : List TP) (V : List Int) (p : TP) (j : Int) (k : Nat) (v : Value) (w : World) : Prop :=
  match k with
  | 0 => v = .pointer (some ⟨n, 0, none⟩)
  | 1 => v = .slice o1 T.length c1
  | 2 => TiksV w v T ∧ Fresh B v
  | 3 => v = .pointer (some ⟨n, 1, none⟩)
  | 4 => v = .slice o2 P.length c2
  | 5 => v = tp p.a p.g p.s p.m p.z
  | 6 => ∃ b, v = .slice (some ⟨b, 0, none⟩) 1 1 ∧ Tap5 w ⟨b, 0, none⟩ p
  | 7 => ∃ b b', v = .slice (some ⟨b, 0, none⟩) 2 2 ∧ PiecesP w ⟨b, 0, none⟩ [(o2, P, c2), (some ⟨b', 0, none⟩, [p], 1)]
  | 8 => TapsV w v (P ++ [p]) ∧ Fresh B v
  | 9 => v = .pointer (some ⟨n, 2, none⟩)
  | 10 => v = .slice o3 V.length c3
  | 11 => v = .int .i64 j
  | 12 => ∃ b, v = .slice (some ⟨b, 0, none⟩) 1 1 ∧ w.cell? ⟨b, 0, none⟩ = some (.int .i64 j)
  | 13 => ∃ b b', v = .slice (some ⟨b, 0, none⟩) 2 2 ∧ PiecesV w ⟨b, 0, none⟩ [(o3, V, c3), (some ⟨b', 0, none⟩, [j], 1)]
  | 14 => IntsV w v (V ++ [j]) ∧ Fresh B v
  | 15 => LedF B w v T (P ++ [p]) (V ++ [j])
  | 16 => v = .int .i64 j
  | _ => True

theorem phiE_below {n B : Nat} {o1 o2 o3 : Option Addr} {c1 c2 c3 : Nat} {T : List TK} {P : List TP} {V : List Int} {p : TP} {j : Int} (k : Nat) (v : Value) (w w' : World) (h : phiE n B o1 o2 o3 c1 c2 c3 T P V p j k v w) (hb : Below w.heap.size w w') :
    phiE n B o1 o2 o3 c1 c2 c3 T P V p j k v w' := by
  unfold phiE at h ⊢
  split <;> simp only [] at h
  all_goals first
    | exact h
    | exact ⟨h.1.below hb, h.2⟩
    | (obtain ⟨b, e, h5⟩ := h; exact ⟨b, e, h5.below hb h5.lt⟩)
    | (obtain ⟨b, b', e, h5⟩ := h; exact ⟨b, b', e, h5.below hb⟩)
    | (obtain ⟨b, e, h5⟩ := h; exact ⟨b, e, by rw [hb.cell (World.block_lt_of_cell? w _ h5)]; exact h5⟩)
    | exact h.below hb

theorem intsAt_one {w : World} {b : Nat} {j : Int} (h : w.cell? ⟨b, 0, none⟩ = some (.int .i64 j)) : IntsAt w (some ⟨b, 0, none⟩) [j] := by
  intro i q hq
  match i, hq with
  | 0, hq =>
    simp at hq
    subst hq
    exact ⟨_, rfl, by simpa [Addr.add] using h⟩
  | i + 1, hq => simp at hq

/-- a ledger whose lists lie in blocks from B on -/
def LedN (B : Nat) (w : World) (v : Value) (T : List TK) (P : List TP) (V : List Int) : Prop := ∃ v1 v2 v3, v = .agg #[v1, v2, v3] ∧ (TiksV w v1 T ∧ Fresh B v1) ∧ (TapsV w v2 P ∧ Fresh B v2) ∧ (IntsV w v3 V ∧ Fresh B v3)

theorem LedN.ledV {B : Nat} {w : World} {v : Value} {T : List TK} {P : List TP} {V : List Int} (h : LedN B w v T P V) : LedV w v T P V :=
  have ⟨v1, v2, v3, e, h1, h2, h3⟩ := h; ⟨v1, v2, v3, e, h1.1, h2.1, h3.1⟩

theorem ledN_none (B : Nat) (w : World) : LedN B w (lg none none none 0 0 0 0 0 0) [] [] [] :=
  ⟨_, _, _, rfl, ⟨⟨none, 0, rfl, fun i p h => by simp at h, by simp, fun _ => rfl⟩, fun k hk => by simp [Value.ownBlock] at hk⟩, ⟨⟨none, 0, rfl, fun i p h => by simp at h, by simp, fun _ => rfl⟩, fun k hk => by simp [Value.ownBlock] at hk⟩, ⟨⟨none, 0, rfl, fun i p h => by simp at h, by simp, fun _ => rfl⟩, fun k hk => by simp [Value.ownBlock] at hk⟩⟩

set_option maxHeartbeats 6400000 in
set_option maxRecDepth 100000 in
theorem enterF_any (T : List TK) (P : List TP) (V : List Int) (a g s m z : Int) (o1 o2 o3 : Option Addr) (c1 c2 c3 : Nat) (w : World) (hT : TiksAt w o1 T) (hP : TapsAt w o2 P) (hV : IntsAt w o3 V) (hlT : T.length ≤ 9223372036854775807) (hlP : P.length ≤ 9223372036854775807) (hlV : V.length ≤ 9223372036854775807)
    (hc2 : P.length ≤ c2) (hc3 : V.length ≤ c3) (hn2 : o2 = none → c2 = 0) (hn3 : o3 = none → c3 = 0) :
    Calls Try.prog 19 #[lg o1 o2 o3 T.length c1 P.length c2 V.length c3, tp a g s m z] w fun e w' =>
      (∃ v, e = .returned (.tuple #[v, .int .i64 (enterV T P V ⟨a, g, s, m, z⟩).1, .int .i64 (enterV T P V ⟨a, g, s, m, z⟩).2]) ∧ LedN w.heap.size w' v (if (enterV T P V ⟨a, g, s, m, z⟩).2 = 0 then T else []) (if (enterV T P V ⟨a, g, s, m, z⟩).2 = 0 then P ++ [(⟨a, g, s, m, z⟩ : TP)] else [])
        (if (enterV T P V ⟨a, g, s, m, z⟩).2 = 0 then V ++ [(enterV T P V ⟨a, g, s, m, z⟩).1] else [])) ∧ Below w.heap.size w w' := by
  have HC := hide (fun W (h : TiksAt W o1 T) (h' : TapsAt W o2 P) (h'' : IntsAt W o3 V) => checkLed_any T P V o1 o2 o3 c1 c2 c3 W h h' h'' hlT hlP hlV hc2 hc3)
  have HU := hide (fun (h0 : chkL T P V = 0) W (h : TiksAt W o1 T) (h' : TapsAt W o2 P) => unfit_any T P o1 o2 o3 c1 c2 V.length c3 a g s m z W h h' (chkL_right h0).1 (chkL_right h0).2.1 (rising_of (chkL_right h0).2.2.2.1))
  have HEa := hide (fun (h0 : chkL T P V = 0) W (h' : TapsAt W o2 P) => early_any P o1 o2 o3 T.length c1 c2 V.length c3 a g s m z W h' (chkL_right h0).2.1)
  have HJ := hide (fun (h0 : chkL T P V = 0) (hu : unf T P ⟨a, g, s, m, z⟩ = 0) W (h : TiksAt W o1 T) (h' : TapsAt W o2 P) (h'' : IntsAt W o3 V) => bookJudge_any T P V o1 o2 o3 c1 c2 c3 a g s m z W h h' h'' (chkL_right h0).1 (chkL_right h0).2.1 (chkL_right h0).2.2.1 (rising_of (chkL_right h0).2.2.2.1) (unf_has hu).2.1)
  have hlens0 : chkL T P V = 0 → T.length ≤ 12 ∧ P.length ≤ 60 ∧ V.length ≤ 60 := fun h => by have := chkL_right h; omega
  have HT := hide hT
  have HP := hide hP
  have HV := hide hV
  clear hT hP hV hlT hlP hlV
  generalize hE : enterV T P V ⟨a, g, s, m, z⟩ = E
  unfold enterV at hE
  simp only [] at hE
  generalize chkL T P V = X at *
  generalize unf T P ⟨a, g, s, m, z⟩ = U at *
  generalize earlyB P m = ea at *
  generalize judB T (P.zip V) ⟨a, g, s, m, z⟩ = J at *
  have hc : ((X != 0) = true ∧ E = (0, X)) ∨ (X = 0 ∧ (U != 0) = true ∧ E = (0, U)) ∨ (X = 0 ∧ U = 0 ∧ ea = true ∧ E = (0, 4)) ∨ (X = 0 ∧ U = 0 ∧ ea = false ∧ (J.2 != 0) = true ∧ E = J) ∨ (X = 0 ∧ U = 0 ∧ ea = false ∧ (J.2 != 0) = false ∧ ((P.length : Int) == 60) = true ∧ E = (0, 2)) ∨
      (X = 0 ∧ U = 0 ∧ ea = false ∧ (J.2 != 0) = false ∧ ((P.length : Int) == 60) = false ∧ E = (J.1, 0)) := by
    rw [← hE]
    by_cases h1 : X = 0
    · by_cases h2 : U = 0
      · cases ea
        · by_cases h3 : J.2 = 0
          · by_cases h4 : P.length = 60
            · simp [h1, h2, h3, h4]
            · have : ¬ (P.length : Int) = 60 := by omega
              simp [h1, h2, h3, h4, this]
          · simp [h1, h2, h3]
        · simp [h1, h2]
      · simp [h1, h2]
    · simp [h1]
  clear hE
  obtain ⟨J1, J2⟩ := J
  simp only [] at hc HJ
  rcases hc with ⟨h1, rfl⟩ | ⟨rfl, h2, rfl⟩ | ⟨rfl, rfl, rfl, rfl⟩ | ⟨rfl, rfl, rfl, h4, rfl⟩ | ⟨rfl, rfl, rfl, h4, h5, rfl⟩ | ⟨rfl, rfl, rfl, h4, h5, rfl⟩
  rotate_left 5
  · simp only [if_true]
    have h4' : J2 = 0 := by simpa using h4
    subst h4'
    have hlens := hlens0 rfl
    go_enter Try.func19, Try.ntmps19
    go_wp2_with fail
    refine (HC.out _ (HT.out.below ?_) (HP.out.below ?_) (HV.out.below ?_)).mono ?_
    · repeat (first | with_reducible exact Below.refl _ _ | with_reducible refine Below.alloc ?_ (by simp; try omega) _)
    · repeat (first | with_reducible exact Below.refl _ _ | with_reducible refine Below.alloc ?_ (by simp; try omega) _)
    · repeat (first | with_reducible exact Below.refl _ _ | with_reducible refine Below.alloc ?_ (by simp; try omega) _)
    rintro e w1 ⟨rfl, hb1⟩
    have HB1 := hide (boxesE_of _ _ _ _ _ _ _ _ _ _ _ _ _ _ _ _ hb1)
    clear hb1
    obtain ⟨⟨x0, x1, x2⟩, ⟨y0, y1, y2, y3, y4⟩, -, -, -⟩ := HB1.out
    simp only [Nat.zero_add] at y0 y1 y2 y3 y4
    have hq := HB1.out.2.2.2.1
    have hq1 : w.heap.size + 1 < w1.heap.size := by omega
    have hq0 : w.heap.size < w1.heap.size := by omega
    go_wp2_with fail
    have hb0 := (Below.refl w1.heap.size w1).alloc (Nat.le_refl _) (cL o1 o2 o3 T.length c1 P.length c2 V.length c3 79)
    have HB1' := hide (HB1.out.on hb0)
    refine (HU.out trivial _ (HT.out.below HB1'.out.2.2.2.2) (HP.out.below HB1'.out.2.2.2.2)).mono ?_
    rintro e w2 ⟨rfl, hb2⟩
    have HB2 := hide (HB1'.out.on hb2)
    have HL2 : Hid (Led3 w2 w1.heap.size o1 o2 o3 T.length c1 P.length c2 V.length c3) := hide (Led3.below (w := w1.alloc (cL o1 o2 o3 T.length c1 P.length c2 V.length c3 79)) ⟨by simp [go_sem], by simp [go_sem], by simp [go_sem]⟩ hb2 (by simp))
    clear hb2 HB1 HB1' x0 x1 x2 y0 y1 y2 y3 y4 hb0
    obtain ⟨-, ⟨y0, y1, y2, y3, y4⟩, -, -, -⟩ := HB2.out
    obtain ⟨x0, x1, x2⟩ := HL2.out
    simp only [Nat.zero_add] at y0 y1 y2 y3 y4
    go_wp2_with fail
    refine (HEa.out trivial _ (HP.out.below HB2.out.2.2.2.2)).mono ?_
    rintro e w3 ⟨rfl, hb3⟩
    have HB3 := hide (HB2.out.on hb3)
    have HL3 := hide (HL2.out.below hb3 HL2.out.lt)
    clear hb3 HB2 HL2 x0 x1 x2 y0 y1 y2 y3 y4
    obtain ⟨-, ⟨y0, y1, y2, y3, y4⟩, -, -, -⟩ := HB3.out
    obtain ⟨x0, x1, x2⟩ := HL3.out
    simp only [Nat.zero_add] at y0 y1 y2 y3 y4
    go_wp2_with fail
    refine (HJ.out trivial trivial _ (HT.out.below HB3.out.2.2.2.2) (HP.out.below HB3.out.2.2.2.2) (HV.out.below HB3.out.2.2.2.2)).mono ?_
    rintro e w4 ⟨rfl, hb4⟩
    have HB4 := hide (HB3.out.on hb4)
    clear hb4 HB3 HL3 x0 x1 x2 y0 y1 y2 y3 y4
    obtain ⟨⟨x0, x1, x2⟩, ⟨y0, y1, y2, y3, y4⟩, -, -, -⟩ := HB4.out
    simp only [Nat.zero_add] at y0 y1 y2 y3 y4
    go_wp2_with fail
    clear x0 x1 x2 y0 y1 y2 y3 y4 HC HU HEa HJ hlens0
    refine wp_region_any (by kernel_rfl) ?_
    refine wpAny_take (i := 16) (v := .int .i64 J1) (fuel := 19) rfl (by kernel_rfl) (by kernel_rfl) (by kernel_rfl) (fun c a w h => h) (.inl ⟨rfl, fun w => by go_simp⟩) ?_
    refine wpAny_makers (fun w' => BoxesE w w' o1 o2 o3 T.length c1 P.length c2 V.length c3 ⟨a, g, s, m, z⟩) (phiE w.heap.size (w.heap.size + 1 + 1 + 1) o1 o2 o3 c1 c2 c3 T P V ⟨a, g, s, m, z⟩ J1) 16 3 #[true, false, false, false] [47, 48, 49, 50, 51, 52, 53, 54, 55, 56, 57, 58, 59, 60, 61, 62] (by kernel_rfl) (by kernel_rfl) (by kernel_rfl) (by kernel_rfl) 64 rfl (by kernel_rfl) phiE_below ?_ ?_ ?_
    · exact HB4.out.on (Below.refl _ _).drew
    · clear HB4
      intro k o hk ho aa w' hS hd hb K' hK
      have b2 : aa.tmps[2]?.getD undef = .pointer (some ⟨w.heap.size, 0, none⟩) := ev_of ((hb 2 (by intro j hj; revert j; decide +kernel)).trans rfl)
      have b3 : aa.tmps[3]?.getD undef = .pointer (some ⟨w.heap.size + 1, 0, none⟩) := ev_of ((hb 3 (by intro j hj; revert j; decide +kernel)).trans rfl)
      have b10 : aa.tmps[10]?.getD undef = .int .i64 J1 := ev_of ((hb 10 (by intro j hj; revert j; decide +kernel)).trans rfl)
      clear hb
      match k, hk, ho, hK with
      | 0, _, ho, hK =>
        simp only [List.getElem?_toArray, List.getElem?_cons_zero, Option.some.injEq] at ho
        subst ho
        simp only [] at hd hK
        clear hd
        go_simp
        exact hK _ _ rfl hS (Below.refl _ _)
      | 1, _, ho, hK =>
        simp only [List.getElem?_toArray, List.getElem?_cons_zero, List.getElem?_cons_succ, Option.some.injEq] at ho
        subst ho
        simp only [] at hd hK
        have d0 : aa.eval (.tmp 47) = .pointer (some ⟨w.heap.size, 0, none⟩) := hd ⟨0, .data⟩ (by simp) rfl
        have d0 := ev_of d0
        have hS' := hS
        obtain ⟨⟨x0, x1, x2⟩, ⟨y0, y1, y2, y3, y4⟩, -, -, -⟩ := hS'
        simp only [Nat.zero_add] at y0 y1 y2 y3 y4
        clear hd
        go_simp
        exact hK _ _ rfl hS (Below.refl _ _)
      | 2, _, ho, hK =>
        simp only [List.getElem?_toArray, List.getElem?_cons_zero, List.getElem?_cons_succ, Option.some.injEq] at ho
        subst ho
        simp only [] at hd hK
        have d1 : aa.eval (.tmp 48) = .slice o1 T.length c1 := hd ⟨1, .data⟩ (by simp) rfl
        have d1 := ev_of d1
        clear hd
        have hsz := hS.2.2.2.1
        go_simp
        refine (cloneK_any T o1 c1 w' (HT.out.below hS.2.2.2.2) (by omega)).mono ?_
        rintro e w'' ⟨⟨v, rfl, hv, hf⟩, hbd⟩
        exact hK _ _ ⟨hv, hf.mono (by omega)⟩ (hS.on hbd) hbd
      | 3, _, ho, hK =>
        simp only [List.getElem?_toArray, List.getElem?_cons_zero, List.getElem?_cons_succ, Option.some.injEq] at ho
        subst ho
        simp only [] at hd hK
        clear hd
        go_simp
        exact hK _ _ rfl hS (Below.refl _ _)
      | 4, _, ho, hK =>
        simp only [List.getElem?_toArray, List.getElem?_cons_zero, List.getElem?_cons_succ, Option.some.injEq] at ho
        subst ho
        simp only [] at hd hK
        have d0 : aa.eval (.tmp 50) = .pointer (some ⟨w.heap.size, 1, none⟩) := hd ⟨3, .data⟩ (by simp) rfl
        have d0 := ev_of d0
        have hS' := hS
        obtain ⟨⟨x0, x1, x2⟩, ⟨y0, y1, y2, y3, y4⟩, -, -, -⟩ := hS'
        simp only [Nat.zero_add] at y0 y1 y2 y3 y4
        clear hd
        go_simp
        exact hK _ _ rfl hS (Below.refl _ _)
      | 5, _, ho, hK =>
        simp only [List.getElem?_toArray, List.getElem?_cons_zero, List.getElem?_cons_succ, Option.some.injEq] at ho
        subst ho
        simp only [] at hd hK
        have hS' := hS
        obtain ⟨⟨x0, x1, x2⟩, ⟨y0, y1, y2, y3, y4⟩, -, -, -⟩ := hS'
        simp only [Nat.zero_add] at y0 y1 y2 y3 y4
        clear hd
        go_simp
        exact hK _ _ rfl hS (Below.refl _ _)
      | 6, _, ho, hK =>
        simp only [List.getElem?_toArray, List.getElem?_cons_zero, List.getElem?_cons_succ, Option.some.injEq] at ho
        subst ho
        simp only [] at hd hK
        have d0 : aa.eval (.tmp 52) = tp a g s m z := hd ⟨5, .data⟩ (by simp) rfl
        have d0 := ev_of d0
        clear hd
        have hbd := (Below.refl w'.heap.size w').alloc (Nat.le_refl _) (cP a g s m z 32)
        go_simp
        exact hK _ _ ⟨w'.heap.size, rfl, ⟨by simp [go_sem], by simp [go_sem], by simp [go_sem], by simp [go_sem], by simp [go_sem]⟩⟩ (hS.on hbd) hbd
      | 7, _, ho, hK =>
        simp only [List.getElem?_toArray, List.getElem?_cons_zero, List.getElem?_cons_succ, Option.some.injEq] at ho
        subst ho
        simp only [] at hd hK
        have d0 : aa.eval (.tmp 51) = .slice o2 P.length c2 := hd ⟨4, .data⟩ (by simp) rfl
        have d0 := ev_of d0
        obtain ⟨b, d1, h6⟩ : ∃ b, aa.eval (.tmp 53) = .slice (some ⟨b, 0, none⟩) 1 1 ∧ Tap5 w' ⟨b, 0, none⟩ ⟨a, g, s, m, z⟩ := hd ⟨6, .data⟩ (by simp) rfl
        have d1 := ev_of d1
        clear hd
        have hbd := (Below.refl w'.heap.size w').alloc (Nat.le_refl _) (.cells #[.slice o2 P.length c2, .slice (some ⟨b, 0, none⟩) 1 1] 30)
        go_simp
        refine hK _ _ ⟨w'.heap.size, b, rfl, ?_⟩ (hS.on hbd) hbd
        intro q o L cap hq
        match q, hq with
        | 0, hq =>
          simp at hq
          obtain ⟨rfl, rfl, rfl⟩ := hq
          exact ⟨by simp [Addr.add, go_sem], HP.out.below (hS.on hbd).2.2.2.2, hn2⟩
        | 1, hq =>
          simp at hq
          obtain ⟨rfl, rfl, rfl⟩ := hq
          exact ⟨by simp [Addr.add, go_sem], tapsAt_one (h6.below hbd h6.lt), fun h => by cases h⟩
        | q + 2, hq => simp at hq
      | 8, _, ho, hK =>
        simp only [List.getElem?_toArray, List.getElem?_cons_zero, List.getElem?_cons_succ, Option.some.injEq] at ho
        subst ho
        simp only [] at hd hK
        obtain ⟨b, b', d1, h6⟩ : ∃ b b', aa.eval (.tmp 54) = .slice (some ⟨b, 0, none⟩) 2 2 ∧ PiecesP w' ⟨b, 0, none⟩ [(o2, P, c2), (some ⟨b', 0, none⟩, [(⟨a, g, s, m, z⟩ : TP)], 1)] := hd ⟨7, .data⟩ (by simp) rfl
        have d1 := ev_of d1
        clear hd
        have hsz := hS.2.2.2.1
        go_simp
        refine (concatP_any _ _ 2 w' h6 (by simp) (by simp [lenS]; omega)).mono ?_
        rintro e w'' ⟨⟨v, rfl, hv, hf⟩, hbd⟩
        exact hK _ _ ⟨by simpa using hv, hf.mono (by omega)⟩ (hS.on hbd) hbd
      | 9, _, ho, hK =>
        simp only [List.getElem?_toArray, List.getElem?_cons_zero, List.getElem?_cons_succ, Option.some.injEq] at ho
        subst ho
        simp only [] at hd hK
        clear hd
        go_simp
        exact hK _ _ rfl hS (Below.refl _ _)
      | 10, _, ho, hK =>
        simp only [List.getElem?_toArray, List.getElem?_cons_zero, List.getElem?_cons_succ, Option.some.injEq] at ho
        subst ho
        simp only [] at hd hK
        have d0 : aa.eval (.tmp 56) = .pointer (some ⟨w.heap.size, 2, none⟩) := hd ⟨9, .data⟩ (by simp) rfl
        have d0 := ev_of d0
        have hS' := hS
        obtain ⟨⟨x0, x1, x2⟩, ⟨y0, y1, y2, y3, y4⟩, -, -, -⟩ := hS'
        simp only [Nat.zero_add] at y0 y1 y2 y3 y4
        clear hd
        go_simp
        exact hK _ _ rfl hS (Below.refl _ _)
      | 11, _, ho, hK =>
        simp only [List.getElem?_toArray, List.getElem?_cons_zero, List.getElem?_cons_succ, Option.some.injEq] at ho
        subst ho
        simp only [] at hd hK
        clear hd
        go_simp
        exact hK _ _ rfl hS (Below.refl _ _)
      | 12, _, ho, hK =>
        simp only [List.getElem?_toArray, List.getElem?_cons_zero, List.getElem?_cons_succ, Option.some.injEq] at ho
        subst ho
        simp only [] at hd hK
        have d0 : aa.eval (.tmp 58) = .int .i64 J1 := hd ⟨11, .data⟩ (by simp) rfl
        have d0 := ev_of d0
        clear hd
        have hbd := (Below.refl w'.heap.size w').alloc (Nat.le_refl _) (.cells #[.int .i64 J1] 3)
        go_simp
        exact hK _ _ ⟨w'.heap.size, rfl, by simp [go_sem]⟩ (hS.on hbd) hbd
      | 13, _, ho, hK =>
        simp only [List.getElem?_toArray, List.getElem?_cons_zero, List.getElem?_cons_succ, Option.some.injEq] at ho
        subst ho
        simp only [] at hd hK
        have d0 : aa.eval (.tmp 57) = .slice o3 V.length c3 := hd ⟨10, .data⟩ (by simp) rfl
        have d0 := ev_of d0
        obtain ⟨b, d1, h6⟩ : ∃ b, aa.eval (.tmp 59) = .slice (some ⟨b, 0, none⟩) 1 1 ∧ w'.cell? ⟨b, 0, none⟩ = some (.int .i64 J1) := hd ⟨12, .data⟩ (by simp) rfl
        have d1 := ev_of d1
        clear hd
        have hbd := (Below.refl w'.heap.size w').alloc (Nat.le_refl _) (.cells #[.slice o3 V.length c3, .slice (some ⟨b, 0, none⟩) 1 1] 41)
        go_simp
        refine hK _ _ ⟨w'.heap.size, b, rfl, ?_⟩ (hS.on hbd) hbd
        intro q o L cap hq
        match q, hq with
        | 0, hq =>
          simp at hq
          obtain ⟨rfl, rfl, rfl⟩ := hq
          exact ⟨by simp [Addr.add, go_sem], HV.out.below (hS.on hbd).2.2.2.2, hn3⟩
        | 1, hq =>
          simp at hq
          obtain ⟨rfl, rfl, rfl⟩ := hq
          exact ⟨by simp [Addr.add, go_sem], intsAt_one (by rw [hbd.cell (World.block_lt_of_cell? w' _ h6)]; exact h6), fun h => by cases h⟩
        | q + 2, hq => simp at hq
      | 14, _, ho, hK =>
        simp only [List.getElem?_toArray, List.getElem?_cons_zero, List.getElem?_cons_succ, Option.some.injEq] at ho
        subst ho
        simp only [] at hd hK
        obtain ⟨b, b', d1, h6⟩ : ∃ b b', aa.eval (.tmp 60) = .slice (some ⟨b, 0, none⟩) 2 2 ∧ PiecesV w' ⟨b, 0, none⟩ [(o3, V, c3), (some ⟨b', 0, none⟩, [J1], 1)] := hd ⟨13, .data⟩ (by simp) rfl
        have d1 := ev_of d1
        clear hd
        have hsz := hS.2.2.2.1
        go_simp
        refine (concatV_any _ _ 2 w' h6 (by simp) (by simp [lenS]; omega)).mono ?_
        rintro e w'' ⟨⟨v, rfl, hv, hf⟩, hbd⟩
        exact hK _ _ ⟨by simpa using hv, hf.mono (by omega)⟩ (hS.on hbd) hbd
      | 15, _, ho, hK =>
        simp only [List.getElem?_toArray, List.getElem?_cons_zero, List.getElem?_cons_succ, Option.some.injEq] at ho
        subst ho
        simp only [] at hd hK
        obtain ⟨⟨oa, ca, d1, ha⟩, fa⟩ : TiksV w' (aa.eval (.tmp 49)) T ∧ Fresh (w.heap.size + 1 + 1 + 1) (aa.eval (.tmp 49)) := hd ⟨2, .data⟩ (by simp) rfl
        obtain ⟨⟨ob, cb, d2, hbb⟩, fb⟩ : TapsV w' (aa.eval (.tmp 55)) (P ++ [(⟨a, g, s, m, z⟩ : TP)]) ∧ Fresh (w.heap.size + 1 + 1 + 1) (aa.eval (.tmp 55)) := hd ⟨8, .data⟩ (by simp) rfl
        obtain ⟨⟨oc, cc, d3, hcc⟩, fc⟩ : IntsV w' (aa.eval (.tmp 61)) (V ++ [J1]) ∧ Fresh (w.heap.size + 1 + 1 + 1) (aa.eval (.tmp 61)) := hd ⟨14, .data⟩ (by simp) rfl
        rw [d1] at fa
        rw [d2] at fb
        rw [d3] at fc
        have hF : LedF (w.heap.size + 1 + 1 + 1) w' (lg oa ob oc T.length ca (P ++ [(⟨a, g, s, m, z⟩ : TP)]).length cb (V ++ [J1]).length cc) T (P ++ [(⟨a, g, s, m, z⟩ : TP)]) (V ++ [J1]) :=
          ⟨oa, ca, ob, cb, oc, cc, rfl, ⟨⟨oa, ca, rfl, ha⟩, fa⟩, ⟨⟨ob, cb, rfl, hbb⟩, fb⟩, ⟨⟨oc, cc, rfl, hcc⟩, fc⟩⟩
        have HF := hide hF
        generalize (P ++ [(⟨a, g, s, m, z⟩ : TP)]).length = np at *
        generalize (V ++ [J1]).length = nv at *
        have d1 := ev_of d1
        have d2 := ev_of d2
        have d3 := ev_of d3
        clear hd hF ha hbb hcc fa fb fc
        go_simp
        exact hK _ _ HF.out hS (Below.refl _ _)
      | k + 16, hk, _, _ => exact absurd hk (by omega)
    · intro vals wf hS hφ
      obtain ⟨oa, ca, ob, cb, oc, cc, e15, ⟨a1, a2⟩, ⟨b1, b2⟩, ⟨d1, d2⟩⟩ : LedF (w.heap.size + 1 + 1 + 1) wf (vals 15) T (P ++ [(⟨a, g, s, m, z⟩ : TP)]) (V ++ [J1]) := hφ 15 (by decide)
      clear hφ HB4
      have hrow := hS.2.2.1
      have r0 := cell_of_row wf _ 0 _ _ _ hrow
      have r1 := cell_of_row wf _ 1 _ _ _ hrow
      have r2 := cell_of_row wf _ 2 _ _ _ hrow
      have s0 := frozen_of_row wf _ 0 _ _ hrow
      have s1 := frozen_of_row wf _ 1 _ _ hrow
      have s2 := frozen_of_row wf _ 2 _ _ hrow
      simp at r0 r1 r2
      clear hrow
      have HBf := hide hS
      clear hS
      have HVf := hide (And.intro (And.intro a1 a2) (And.intro (And.intro b1 b2) (And.intro d1 d2)))
      clear a1 a2 b1 b2 d1 d2
      simp only [putsD, Nat.zero_add, Nat.reduceAdd, e15]
      clear e15
      generalize hnp : (P ++ [(⟨a, g, s, m, z⟩ : TP)]).length = np at *
      generalize hnv : (V ++ [J1]).length = nv at *
      have HNP := hide hnp
      have HNV := hide hnv
      clear hnp hnv
      refine one_ready (i := 17) (by kernel_rfl) rfl rfl (fun K hK => ?_)
      go_simp
      have HLg : Hid (Led3 (((wf.setCell ⟨w.heap.size + 1 + 1, 0, none⟩ (.slice oa T.length ca)).setCell ⟨w.heap.size + 1 + 1, 1, none⟩ (.slice ob np cb)).setCell ⟨w.heap.size + 1 + 1, 2, none⟩ (.slice oc nv cc)) (w.heap.size + 1 + 1) oa ob oc T.length ca np cb nv cc) := by
        refine hide ⟨?_, ?_, ?_⟩
        all_goals simp [go_sem, r0, r1, r2]
      have HVg : Hid (LedN w.heap.size (((wf.setCell ⟨w.heap.size + 1 + 1, 0, none⟩ (.slice oa T.length ca)).setCell ⟨w.heap.size + 1 + 1, 1, none⟩ (.slice ob np cb)).setCell ⟨w.heap.size + 1 + 1, 2, none⟩ (.slice oc nv cc)) (lg oa ob oc T.length ca np cb nv cc) T (P ++ [(⟨a, g, s, m, z⟩ : TP)]) (V ++ [J1])) := by
        obtain ⟨⟨a1, a2⟩, ⟨b1, b2⟩, ⟨d1, d2⟩⟩ := HVf.out
        exact hide ⟨_, _, _, rfl, ⟨((a1.set a2 (by simp) _).set a2 (by simp) _).set a2 (by simp) _, a2.mono (by omega)⟩, ⟨((b1.set b2 (by simp) _).set b2 (by simp) _).set b2 (by simp) _, b2.mono (by omega)⟩, ⟨((d1.set d2 (by simp) _).set d2 (by simp) _).set d2 (by simp) _, d2.mono (by omega)⟩⟩
      have HBg : Hid (Below w.heap.size w (((wf.setCell ⟨w.heap.size + 1 + 1, 0, none⟩ (.slice oa T.length ca)).setCell ⟨w.heap.size + 1 + 1, 1, none⟩ (.slice ob np cb)).setCell ⟨w.heap.size + 1 + 1, 2, none⟩ (.slice oc nv cc))) :=
        hide (((HBf.out.2.2.2.2.setCell (p := ⟨w.heap.size + 1 + 1, 0, none⟩) (by simp; omega) _).setCell (p := ⟨w.heap.size + 1 + 1, 1, none⟩) (by simp; omega) _).setCell (p := ⟨w.heap.size + 1 + 1, 2, none⟩) (by simp; omega) _)
      refine hK _ _ ?_
      clear hK K HVf HBf r0 r1 r2 s0 s1 s2
      generalize ((wf.setCell ⟨w.heap.size + 1 + 1, 0, none⟩ (.slice oa T.length ca)).setCell ⟨w.heap.size + 1 + 1, 1, none⟩ (.slice ob np cb)).setCell ⟨w.heap.size + 1 + 1, 2, none⟩ (.slice oc nv cc) = wg at *
      refine one_ready (i := 18) (by kernel_rfl) rfl rfl (fun K hK => ?_)
      go_simp
      refine hK _ _ ?_
      clear hK K
      refine one_ready (i := 19) (by kernel_rfl) rfl rfl (fun K hK => ?_)
      go_simp
      refine hK _ _ ?_
      clear hK K
      refine wpAny_done (by kernel_rfl) ?_ _
      obtain ⟨g0, g1, g2⟩ := HLg.out
      go_wp2_with fail
      refine bodyPost_ret (v := .tuple #[lg oa ob oc T.length ca np cb nv cc, .int .i64 J1, .int .i64 0]) (by simp [results, Try.results19, go_sem, g0, g1, g2]) rfl ⟨⟨_, rfl, ?_⟩, HBg.out⟩
      exact HVg.out
  · simp only []
    have hE : ¬ X = 0 := by simpa using h1
    rw [if_neg hE, if_neg hE, if_neg hE]
    go_enter Try.func19, Try.ntmps19
    go_wp2_with fail
    refine (HC.out _ (HT.out.below ?_) (HP.out.below ?_) (HV.out.below ?_)).mono ?_
    · repeat (first | with_reducible exact Below.refl _ _ | with_reducible refine Below.alloc ?_ (by simp; try omega) _)
    · repeat (first | with_reducible exact Below.refl _ _ | with_reducible refine Below.alloc ?_ (by simp; try omega) _)
    · repeat (first | with_reducible exact Below.refl _ _ | with_reducible refine Below.alloc ?_ (by simp; try omega) _)
    rintro e w1 ⟨rfl, hb1⟩
    have HB1 := hide (boxesE_of _ _ _ _ _ _ _ _ _ _ _ _ _ _ _ _ hb1)
    clear hb1
    obtain ⟨⟨x0, x1, x2⟩, ⟨y0, y1, y2, y3, y4⟩, -, -, -⟩ := HB1.out
    simp only [Nat.zero_add] at y0 y1 y2 y3 y4
    have hq := HB1.out.2.2.2.1
    have hq1 : w.heap.size + 1 < w1.heap.size := by omega
    have hq0 : w.heap.size < w1.heap.size := by omega
    have hrow := HB1.out.2.2.1
    have r0 := cell_of_row _ _ 0 _ _ _ hrow
    have r1 := cell_of_row _ _ 1 _ _ _ hrow
    have r2 := cell_of_row _ _ 2 _ _ _ hrow
    have s0 := frozen_of_row _ _ 0 _ _ hrow
    have s1 := frozen_of_row _ _ 1 _ _ hrow
    have s2 := frozen_of_row _ _ 2 _ _ hrow
    simp at r0 r1 r2
    clear hrow
    go_wp2_with fail
    refine bodyPost_ret (v := .tuple #[lg none none none 0 0 0 0 0 0, .int .i64 0, .int .i64 X]) (by simp [results, Try.results19, go_sem, *]) rfl ⟨⟨_, rfl, ?_⟩, ?_⟩
    · exact ledN_none _ _
    · repeat (first | with_reducible refine Below.setCell ?_ (by simp; try omega) _ | exact HB1.out.2.2.2.2)
  · simp only []
    have hE : ¬ U = 0 := by simpa using h2
    rw [if_neg hE, if_neg hE, if_neg hE]
    go_enter Try.func19, Try.ntmps19
    go_wp2_with fail
    refine (HC.out _ (HT.out.below ?_) (HP.out.below ?_) (HV.out.below ?_)).mono ?_
    · repeat (first | with_reducible exact Below.refl _ _ | with_reducible refine Below.alloc ?_ (by simp; try omega) _)
    · repeat (first | with_reducible exact Below.refl _ _ | with_reducible refine Below.alloc ?_ (by simp; try omega) _)
    · repeat (first | with_reducible exact Below.refl _ _ | with_reducible refine Below.alloc ?_ (by simp; try omega) _)
    rintro e w1 ⟨rfl, hb1⟩
    have HB1 := hide (boxesE_of _ _ _ _ _ _ _ _ _ _ _ _ _ _ _ _ hb1)
    clear hb1
    obtain ⟨⟨x0, x1, x2⟩, ⟨y0, y1, y2, y3, y4⟩, -, -, -⟩ := HB1.out
    simp only [Nat.zero_add] at y0 y1 y2 y3 y4
    have hq := HB1.out.2.2.2.1
    have hq1 : w.heap.size + 1 < w1.heap.size := by omega
    have hq0 : w.heap.size < w1.heap.size := by omega
    go_wp2_with fail
    have hb0 := (Below.refl w1.heap.size w1).alloc (Nat.le_refl _) (cL o1 o2 o3 T.length c1 P.length c2 V.length c3 79)
    have HB1' := hide (HB1.out.on hb0)
    refine (HU.out trivial _ (HT.out.below HB1'.out.2.2.2.2) (HP.out.below HB1'.out.2.2.2.2)).mono ?_
    rintro e w2 ⟨rfl, hb2⟩
    have HB2 := hide (HB1'.out.on hb2)
    have HL2 : Hid (Led3 w2 w1.heap.size o1 o2 o3 T.length c1 P.length c2 V.length c3) := hide (Led3.below (w := w1.alloc (cL o1 o2 o3 T.length c1 P.length c2 V.length c3 79)) ⟨by simp [go_sem], by simp [go_sem], by simp [go_sem]⟩ hb2 (by simp))
    clear hb2 HB1 HB1' x0 x1 x2 y0 y1 y2 y3 y4 hb0
    obtain ⟨-, ⟨y0, y1, y2, y3, y4⟩, -, -, -⟩ := HB2.out
    obtain ⟨x0, x1, x2⟩ := HL2.out
    simp only [Nat.zero_add] at y0 y1 y2 y3 y4
    have hrow := HB2.out.2.2.1
    have r0 := cell_of_row _ _ 0 _ _ _ hrow
    have r1 := cell_of_row _ _ 1 _ _ _ hrow
    have r2 := cell_of_row _ _ 2 _ _ _ hrow
    have s0 := frozen_of_row _ _ 0 _ _ hrow
    have s1 := frozen_of_row _ _ 1 _ _ hrow
    have s2 := frozen_of_row _ _ 2 _ _ hrow
    simp at r0 r1 r2
    clear hrow
    go_wp2_with fail
    refine bodyPost_ret (v := .tuple #[lg none none none 0 0 0 0 0 0, .int .i64 0, .int .i64 U]) (by simp [results, Try.results19, go_sem, *]) rfl ⟨⟨_, rfl, ?_⟩, ?_⟩
    · exact ledN_none _ _
    · repeat (first | with_reducible refine Below.setCell ?_ (by simp; try omega) _ | exact HB2.out.2.2.2.2)
  · simp only []
    rw [if_neg (show ¬ (4 : Int) = 0 by decide), if_neg (show ¬ (4 : Int) = 0 by decide), if_neg (show ¬ (4 : Int) = 0 by decide)]
    go_enter Try.func19, Try.ntmps19
    go_wp2_with fail
    refine (HC.out _ (HT.out.below ?_) (HP.out.below ?_) (HV.out.below ?_)).mono ?_
    · repeat (first | with_reducible exact Below.refl _ _ | with_reducible refine Below.alloc ?_ (by simp; try omega) _)
    · repeat (first | with_reducible exact Below.refl _ _ | with_reducible refine Below.alloc ?_ (by simp; try omega) _)
    · repeat (first | with_reducible exact Below.refl _ _ | with_reducible refine Below.alloc ?_ (by simp; try omega) _)
    rintro e w1 ⟨rfl, hb1⟩
    have HB1 := hide (boxesE_of _ _ _ _ _ _ _ _ _ _ _ _ _ _ _ _ hb1)
    clear hb1
    obtain ⟨⟨x0, x1, x2⟩, ⟨y0, y1, y2, y3, y4⟩, -, -, -⟩ := HB1.out
    simp only [Nat.zero_add] at y0 y1 y2 y3 y4
    have hq := HB1.out.2.2.2.1
    have hq1 : w.heap.size + 1 < w1.heap.size := by omega
    have hq0 : w.heap.size < w1.heap.size := by omega
    go_wp2_with fail
    have hb0 := (Below.refl w1.heap.size w1).alloc (Nat.le_refl _) (cL o1 o2 o3 T.length c1 P.length c2 V.length c3 79)
    have HB1' := hide (HB1.out.on hb0)
    refine (HU.out trivial _ (HT.out.below HB1'.out.2.2.2.2) (HP.out.below HB1'.out.2.2.2.2)).mono ?_
    rintro e w2 ⟨rfl, hb2⟩
    have HB2 := hide (HB1'.out.on hb2)
    have HL2 : Hid (Led3 w2 w1.heap.size o1 o2 o3 T.length c1 P.length c2 V.length c3) := hide (Led3.below (w := w1.alloc (cL o1 o2 o3 T.length c1 P.length c2 V.length c3 79)) ⟨by simp [go_sem], by simp [go_sem], by simp [go_sem]⟩ hb2 (by simp))
    clear hb2 HB1 HB1' x0 x1 x2 y0 y1 y2 y3 y4 hb0
    obtain ⟨-, ⟨y0, y1, y2, y3, y4⟩, -, -, -⟩ := HB2.out
    obtain ⟨x0, x1, x2⟩ := HL2.out
    simp only [Nat.zero_add] at y0 y1 y2 y3 y4
    go_wp2_with fail
    refine (HEa.out trivial _ (HP.out.below HB2.out.2.2.2.2)).mono ?_
    rintro e w3 ⟨rfl, hb3⟩
    have HB3 := hide (HB2.out.on hb3)
    have HL3 := hide (HL2.out.below hb3 HL2.out.lt)
    clear hb3 HB2 HL2 x0 x1 x2 y0 y1 y2 y3 y4
    obtain ⟨-, ⟨y0, y1, y2, y3, y4⟩, -, -, -⟩ := HB3.out
    obtain ⟨x0, x1, x2⟩ := HL3.out
    simp only [Nat.zero_add] at y0 y1 y2 y3 y4
    have hrow := HB3.out.2.2.1
    have r0 := cell_of_row _ _ 0 _ _ _ hrow
    have r1 := cell_of_row _ _ 1 _ _ _ hrow
    have r2 := cell_of_row _ _ 2 _ _ _ hrow
    have s0 := frozen_of_row _ _ 0 _ _ hrow
    have s1 := frozen_of_row _ _ 1 _ _ hrow
    have s2 := frozen_of_row _ _ 2 _ _ hrow
    simp at r0 r1 r2
    clear hrow
    go_wp2_with fail
    refine bodyPost_ret (v := .tuple #[lg none none none 0 0 0 0 0 0, .int .i64 0, .int .i64 4]) (by simp [results, Try.results19, go_sem, *]) rfl ⟨⟨_, rfl, ?_⟩, ?_⟩
    · exact ledN_none _ _
    · repeat (first | with_reducible refine Below.setCell ?_ (by simp; try omega) _ | exact HB3.out.2.2.2.2)
  · simp only [] at h4 ⊢
    have hE : ¬ J2 = 0 := by simpa using h4
    rw [if_neg hE, if_neg hE, if_neg hE]
    go_enter Try.func19, Try.ntmps19
    go_wp2_with fail
    refine (HC.out _ (HT.out.below ?_) (HP.out.below ?_) (HV.out.below ?_)).mono ?_
    · repeat (first | with_reducible exact Below.refl _ _ | with_reducible refine Below.alloc ?_ (by simp; try omega) _)
    · repeat (first | with_reducible exact Below.refl _ _ | with_reducible refine Below.alloc ?_ (by simp; try omega) _)
    · repeat (first | with_reducible exact Below.refl _ _ | with_reducible refine Below.alloc ?_ (by simp; try omega) _)
    rintro e w1 ⟨rfl, hb1⟩
    have HB1 := hide (boxesE_of _ _ _ _ _ _ _ _ _ _ _ _ _ _ _ _ hb1)
    clear hb1
    obtain ⟨⟨x0, x1, x2⟩, ⟨y0, y1, y2, y3, y4⟩, -, -, -⟩ := HB1.out
    simp only [Nat.zero_add] at y0 y1 y2 y3 y4
    have hq := HB1.out.2.2.2.1
    have hq1 : w.heap.size + 1 < w1.heap.size := by omega
    have hq0 : w.heap.size < w1.heap.size := by omega
    go_wp2_with fail
    have hb0 := (Below.refl w1.heap.size w1).alloc (Nat.le_refl _) (cL o1 o2 o3 T.length c1 P.length c2 V.length c3 79)
    have HB1' := hide (HB1.out.on hb0)
    refine (HU.out trivial _ (HT.out.below HB1'.out.2.2.2.2) (HP.out.below HB1'.out.2.2.2.2)).mono ?_
    rintro e w2 ⟨rfl, hb2⟩
    have HB2 := hide (HB1'.out.on hb2)
    have HL2 : Hid (Led3 w2 w1.heap.size o1 o2 o3 T.length c1 P.length c2 V.length c3) := hide (Led3.below (w := w1.alloc (cL o1 o2 o3 T.length c1 P.length c2 V.length c3 79)) ⟨by simp [go_sem], by simp [go_sem], by simp [go_sem]⟩ hb2 (by simp))
    clear hb2 HB1 HB1' x0 x1 x2 y0 y1 y2 y3 y4 hb0
    obtain ⟨-, ⟨y0, y1, y2, y3, y4⟩, -, -, -⟩ := HB2.out
    obtain ⟨x0, x1, x2⟩ := HL2.out
    simp only [Nat.zero_add] at y0 y1 y2 y3 y4
    go_wp2_with fail
    refine (HEa.out trivial _ (HP.out.below HB2.out.2.2.2.2)).mono ?_
    rintro e w3 ⟨rfl, hb3⟩
    have HB3 := hide (HB2.out.on hb3)
    have HL3 := hide (HL2.out.below hb3 HL2.out.lt)
    clear hb3 HB2 HL2 x0 x1 x2 y0 y1 y2 y3 y4
    obtain ⟨-, ⟨y0, y1, y2, y3, y4⟩, -, -, -⟩ := HB3.out
    obtain ⟨x0, x1, x2⟩ := HL3.out
    simp only [Nat.zero_add] at y0 y1 y2 y3 y4
    go_wp2_with fail
    refine (HJ.out trivial trivial _ (HT.out.below HB3.out.2.2.2.2) (HP.out.below HB3.out.2.2.2.2) (HV.out.below HB3.out.2.2.2.2)).mono ?_
    rintro e w4 ⟨rfl, hb4⟩
    have HB4 := hide (HB3.out.on hb4)
    clear hb4 HB3 HL3 x0 x1 x2 y0 y1 y2 y3 y4
    obtain ⟨⟨x0, x1, x2⟩, ⟨y0, y1, y2, y3, y4⟩, -, -, -⟩ := HB4.out
    simp only [Nat.zero_add] at y0 y1 y2 y3 y4
    have hrow := HB4.out.2.2.1
    have r0 := cell_of_row _ _ 0 _ _ _ hrow
    have r1 := cell_of_row _ _ 1 _ _ _ hrow
    have r2 := cell_of_row _ _ 2 _ _ _ hrow
    have s0 := frozen_of_row _ _ 0 _ _ hrow
    have s1 := frozen_of_row _ _ 1 _ _ hrow
    have s2 := frozen_of_row _ _ 2 _ _ hrow
    simp at r0 r1 r2
    clear hrow
    go_wp2_with fail
    refine bodyPost_ret (v := .tuple #[lg none none none 0 0 0 0 0 0, .int .i64 J1, .int .i64 J2]) (by simp [results, Try.results19, go_sem, *]) rfl ⟨⟨_, rfl, ?_⟩, ?_⟩
    · exact ledN_none _ _
    · repeat (first | with_reducible refine Below.setCell ?_ (by simp; try omega) _ | exact HB4.out.2.2.2.2)
  · simp only [] at h4 ⊢
    rw [if_neg (show ¬ (2 : Int) = 0 by decide), if_neg (show ¬ (2 : Int) = 0 by decide), if_neg (show ¬ (2 : Int) = 0 by decide)]
    have h4' : J2 = 0 := by simpa using h4
    subst h4'
    go_enter Try.func19, Try.ntmps19
    go_wp2_with fail
    refine (HC.out _ (HT.out.below ?_) (HP.out.below ?_) (HV.out.below ?_)).mono ?_
    · repeat (first | with_reducible exact Below.refl _ _ | with_reducible refine Below.alloc ?_ (by simp; try omega) _)
    · repeat (first | with_reducible exact Below.refl _ _ | with_reducible refine Below.alloc ?_ (by simp; try omega) _)
    · repeat (first | with_reducible exact Below.refl _ _ | with_reducible refine Below.alloc ?_ (by simp; try omega) _)
    rintro e w1 ⟨rfl, hb1⟩
    have HB1 := hide (boxesE_of _ _ _ _ _ _ _ _ _ _ _ _ _ _ _ _ hb1)
    clear hb1
    obtain ⟨⟨x0, x1, x2⟩, ⟨y0, y1, y2, y3, y4⟩, -, -, -⟩ := HB1.out
    simp only [Nat.zero_add] at y0 y1 y2 y3 y4
    have hq := HB1.out.2.2.2.1
    have hq1 : w.heap.size + 1 < w1.heap.size := by omega
    have hq0 : w.heap.size < w1.heap.size := by omega
    go_wp2_with fail
    have hb0 := (Below.refl w1.heap.size w1).alloc (Nat.le_refl _) (cL o1 o2 o3 T.length c1 P.length c2 V.length c3 79)
    have HB1' := hide (HB1.out.on hb0)
    refine (HU.out trivial _ (HT.out.below HB1'.out.2.2.2.2) (HP.out.below HB1'.out.2.2.2.2)).mono ?_
    rintro e w2 ⟨rfl, hb2⟩
    have HB2 := hide (HB1'.out.on hb2)
    have HL2 : Hid (Led3 w2 w1.heap.size o1 o2 o3 T.length c1 P.length c2 V.length c3) := hide (Led3.below (w := w1.alloc (cL o1 o2 o3 T.length c1 P.length c2 V.length c3 79)) ⟨by simp [go_sem], by simp [go_sem], by simp [go_sem]⟩ hb2 (by simp))
    clear hb2 HB1 HB1' x0 x1 x2 y0 y1 y2 y3 y4 hb0
    obtain ⟨-, ⟨y0, y1, y2, y3, y4⟩, -, -, -⟩ := HB2.out
    obtain ⟨x0, x1, x2⟩ := HL2.out
    simp only [Nat.zero_add] at y0 y1 y2 y3 y4
    go_wp2_with fail
    refine (HEa.out trivial _ (HP.out.below HB2.out.2.2.2.2)).mono ?_
    rintro e w3 ⟨rfl, hb3⟩
    have HB3 := hide (HB2.out.on hb3)
    have HL3 := hide (HL2.out.below hb3 HL2.out.lt)
    clear hb3 HB2 HL2 x0 x1 x2 y0 y1 y2 y3 y4
    obtain ⟨-, ⟨y0, y1, y2, y3, y4⟩, -, -, -⟩ := HB3.out
    obtain ⟨x0, x1, x2⟩ := HL3.out
    simp only [Nat.zero_add] at y0 y1 y2 y3 y4
    go_wp2_with fail
    refine (HJ.out trivial trivial _ (HT.out.below HB3.out.2.2.2.2) (HP.out.below HB3.out.2.2.2.2) (HV.out.below HB3.out.2.2.2.2)).mono ?_
    rintro e w4 ⟨rfl, hb4⟩
    have HB4 := hide (HB3.out.on hb4)
    clear hb4 HB3 HL3 x0 x1 x2 y0 y1 y2 y3 y4
    obtain ⟨⟨x0, x1, x2⟩, ⟨y0, y1, y2, y3, y4⟩, -, -, -⟩ := HB4.out
    simp only [Nat.zero_add] at y0 y1 y2 y3 y4
    have hrow := HB4.out.2.2.1
    have r0 := cell_of_row _ _ 0 _ _ _ hrow
    have r1 := cell_of_row _ _ 1 _ _ _ hrow
    have r2 := cell_of_row _ _ 2 _ _ _ hrow
    have s0 := frozen_of_row _ _ 0 _ _ hrow
    have s1 := frozen_of_row _ _ 1 _ _ hrow
    have s2 := frozen_of_row _ _ 2 _ _ hrow
    simp at r0 r1 r2
    clear hrow
    go_wp2_with fail
    refine bodyPost_ret (v := .tuple #[lg none none none 0 0 0 0 0 0, .int .i64 0, .int .i64 2]) (by simp [results, Try.results19, go_sem, *]) rfl ⟨⟨_, rfl, ?_⟩, ?_⟩
    · exact ledN_none _ _
    · repeat (first | with_reducible refine Below.setCell ?_ (by simp; try omega) _ | exact HB4.out.2.2.2.2)

theorem enter_any (T : List TK) (P : List TP) (V : List Int) (a g s m z : Int) (o1 o2 o3 : Option Addr) (c1 c2 c3 : Nat) (w : World) (hT : TiksAt w o1 T) (hP : TapsAt w o2 P) (hV : IntsAt w o3 V) (hlT : T.length ≤ 9223372036854775807) (hlP : P.length ≤ 9223372036854775807) (hlV : V.length ≤ 9223372036854775807)
    (hc2 : P.length ≤ c2) (hc3 : V.length ≤ c3) (hn2 : o2 = none → c2 = 0) (hn3 : o3 = none → c3 = 0) :
    Calls Try.prog 19 #[lg o1 o2 o3 T.length c1 P.length c2 V.length c3, tp a g s m z] w fun e w' =>
      (∃ v, e = .returned (.tuple #[v, .int .i64 (enterV T P V ⟨a, g, s, m, z⟩).1, .int .i64 (enterV T P V ⟨a, g, s, m, z⟩).2]) ∧ LedV w' v (if (enterV T P V ⟨a, g, s, m, z⟩).2 = 0 then T else []) (if (enterV T P V ⟨a, g, s, m, z⟩).2 = 0 then P ++ [(⟨a, g, s, m, z⟩ : TP)] else [])
        (if (enterV T P V ⟨a, g, s, m, z⟩).2 = 0 then V ++ [(enterV T P V ⟨a, g, s, m, z⟩).1] else [])) ∧ Below w.heap.size w w' := by
  refine (enterF_any T P V a g s m z o1 o2 o3 c1 c2 c3 w hT hP hV hlT hlP hlV hc2 hc3 hn2 hn3).mono ?_
  rintro e w' ⟨⟨v, rfl, h⟩, hb⟩
  exact ⟨⟨v, rfl, h.ledV⟩, hb⟩

end Go.Proofs.Ytcakfmpckbmdeab
