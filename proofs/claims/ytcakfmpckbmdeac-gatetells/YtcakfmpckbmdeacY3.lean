/-
  'TapOf' (package leeboardref).
-/
import Derived.Test.YtcakfmpckbmdeacJ6
import Derived.Test.YtcakfmpckbmdeacN11
import Derived.BigQuiet
import Derived.Deep.CutRange
import Derived.Deep.CutBlock
import Derived.Test.YtcakfmpckbmdeacJ5
import Derived.Test.YtcakfmpckbmdeacH3
import Derived.Test.YtcakfmpckbmdeacH4
namespace Go.Proofs.Ytcakfmpckbmdeac
open Go.RowKit

theorem hasA_snoc (L : List TP) (p : TP) (id : Int) : hasA (L ++ [p]) id = (hasA L id || p.a == id) := by
  simp [hasA]

theorem earlyG_ways (P : List TP) (m : Int) : (P.length = 0 ∧ earlyG P m = false) ∨ (∃ n x, P.length = n + 1 ∧ P[n]? = some x ∧ ((decide (m < x.m) = true ∧ earlyG P m = true) ∨ (decide (m < x.m) = false ∧ earlyG P m = false))) := by
  rcases hn : P.length with _ | n
  · left
    have hL0 : P = [] := List.eq_nil_of_length_eq_zero hn
    subst hL0
    exact ⟨rfl, rfl⟩
  · right
    obtain ⟨x, hx⟩ : ∃ x, P[n]? = some x := ⟨P[n]'(by omega), by simp [hn]⟩
    have hQ : earlyG P m = decide (m < x.m) := by rw [earlyG, List.getLast?_eq_getElem?, hn, Nat.add_sub_cancel, hx]
    refine ⟨n, x, rfl, hx, ?_⟩
    rw [hQ]
    cases decide (m < x.m) <;> simp

/-- the ways of TapOf, of a gate and a ticket that are right -/
theorem tapOf_ways {i z s : Int} {P : List TP} {v : Int} {D : List Int} {l u : Int} {x : TK} (m : Int) (h1 : chkG i z s P v D l u = 0) (h2 : chkK x = 0) :
    (wi m 0 9999 = false ∧ tapG i z s P v D l u x m = 3) ∨ (wi m 0 9999 = true ∧ ((earlyG P m = true ∧ tapG i z s P v D l u x m = 4) ∨ (earlyG P m = false ∧
      ((hasI D x.i = true ∧ tapG i z s P v D l u x m = 11) ∨ (hasI D x.i = false ∧
        ((decide (u < m) = true ∧ tapG i z s P v D l u x m = 8) ∨ (decide (u < m) = false ∧ wi m x.f x.t = false ∧ tapG i z s P v D l u x m = 8) ∨ (decide (u < m) = false ∧ wi m x.f x.t = true ∧
          ((x.z / z % 2 = 0 ∧ tapG i z s P v D l u x m = 9) ∨ (¬ x.z / z % 2 = 0 ∧
            (((l == 0) = true ∧ tapG i z s P v D l u x m = 10) ∨ ((l == 0) = false ∧ (x.k != 2) = true ∧ hasA P x.i = true ∧ tapG i z s P v D l u x m = 10) ∨ ((l == 0) = false ∧ ((x.k != 2) = false ∨ ((x.k != 2) = true ∧ hasA P x.i = false)) ∧
              ((((P.length : Int) == 12) = true ∧ tapG i z s P v D l u x m = 2) ∨ (((P.length : Int) == 12) = false ∧ (s == 99) = true ∧ tapG i z s P v D l u x m = 2) ∨ (((P.length : Int) == 12) = false ∧ (s == 99) = false ∧ tapG i z s P v D l u x m = 0))))))))))))) := by
  have hT : tapG i z s P v D l u x m = if (if wi m 0 9999 = true then (if earlyG P m = true then (4 : Int) else 0) else 3) = 0 then (if shutG D u z x m = 0 then (if spentG P l x = true then 10 else if fullG P.length s = true then 2 else 0) else shutG D u z x m) else (if wi m 0 9999 = true then (if earlyG P m = true then 4 else 0) else 3) := by
    unfold tapG unfG
    rw [if_pos h1, if_pos h2]
  cases a1 : wi m 0 9999
  · left
    exact ⟨rfl, by rw [hT, a1]; rfl⟩
  right
  refine ⟨rfl, ?_⟩
  rw [a1] at hT
  cases a2 : earlyG P m
  · right
    refine ⟨rfl, ?_⟩
    rw [a2] at hT
    simp only [if_true, Bool.false_eq_true, if_false] at hT
    unfold shutG at hT
    cases a3 : hasI D x.i
    · right
      refine ⟨rfl, ?_⟩
      rw [a3] at hT
      simp only [Bool.false_eq_true, if_false] at hT
      by_cases a4 : u < m
      · left
        refine ⟨by simpa using a4, ?_⟩
        rw [hT]
        cases wi m x.f x.t <;> simp [a4]
      · right
        cases a5 : wi m x.f x.t
        · left
          exact ⟨by simpa using a4, rfl, by rw [hT, a5]; rfl⟩
        · right
          refine ⟨by simpa using a4, rfl, ?_⟩
          rw [a5] at hT
          simp only [Bool.true_eq_false, if_false, a4] at hT
          by_cases a6 : x.z / z % 2 = 0
          · left
            exact ⟨a6, by rw [hT]; simp [a6]⟩
          · right
            refine ⟨a6, ?_⟩
            simp only [a6, if_false, if_true] at hT
            unfold spentG fullG at hT
            cases b1 : (l == 0)
            · right
              rw [b1] at hT
              have hfin : (if (((P.length : Int) == 12) || (s == 99)) = true then (2 : Int) else 0) = tapG i z s P v D l u x m → ((((P.length : Int) == 12) = true ∧ tapG i z s P v D l u x m = 2) ∨ (((P.length : Int) == 12) = false ∧ (s == 99) = true ∧ tapG i z s P v D l u x m = 2) ∨ (((P.length : Int) == 12) = false ∧ (s == 99) = false ∧ tapG i z s P v D l u x m = 0)) := by
                intro h
                rw [← h]
                cases ((P.length : Int) == 12)
                · cases (s == 99) <;> simp
                · simp
              cases b2 : (x.k != 2)
              · right
                rw [b2] at hT
                exact ⟨rfl, Or.inl rfl, hfin (by rw [hT]; simp)⟩
              · cases b3 : hasA P x.i
                · right
                  rw [b2, b3] at hT
                  exact ⟨rfl, Or.inr ⟨rfl, rfl⟩, hfin (by rw [hT]; simp)⟩
                · left
                  rw [b2, b3] at hT
                  exact ⟨rfl, rfl, rfl, by rw [hT]; simp⟩
            · left
              rw [b1] at hT
              exact ⟨rfl, by rw [hT]; simp⟩
    · left
      rw [a3] at hT
      exact ⟨rfl, by rw [hT]; simp⟩
  · left
    rw [a2] at hT
    exact ⟨rfl, by rw [hT]; simp⟩

/-- what each operation leaves -/
def phiT (n B : Nat) (oa : Option Addr) (ca : Nat) (P : List TP) (p : TP) (j : Nat) (v : Value) (w : World) : Prop :=
  match j with
  | 0 => ∃ g, v = .slice (some ⟨g, 0, none⟩) 0 0 ∧ B ≤ g ∧ w.heap[g]? = some (.cells #[] 38 (0, 0))
  | 1 => v = .pointer (some ⟨n, 3, none⟩)
  | 2 => v = .slice oa P.length ca
  | 3 => w.ownsRow B 38 5 v P.length (cellsP P)
  | 4 => v = tp p.a p.g p.s p.m p.z
  | 5 => ∃ b, v = .slice (some ⟨b, 0, none⟩) 1 1 ∧ w.heap[b]? = some (.cells #[.int .i64 p.a, .int .i64 p.g, .int .i64 p.s, .int .i64 p.m, .int .i64 p.z] 38 (0, 0))
  | 6 => w.ownsRow B 38 5 v (P.length + 1) (cellsP (P ++ [p]))
  | 7 => v = .pointer (some ⟨n, 3, none⟩)
  | _ => True

section
variable {n B : Nat} {oa : Option Addr} {ca : Nat} {P : List TP} {p : TP}

theorem phiT_below (j : Nat) (v : Value) (w w' : World) (h : phiT n B oa ca P p j v w) (hb : Below w.heap.size w w') : phiT n B oa ca P p j v w' := by
  unfold phiT at h ⊢
  split <;> simp only [] at h
  all_goals first
    | exact h
    | exact ownsRow_below h hb
    | (obtain ⟨g, e, h1, h2⟩ := h; exact ⟨g, e, h1, block_below h2 hb⟩)
    | (obtain ⟨g, e, h2⟩ := h; exact ⟨g, e, block_below h2 hb⟩)

theorem phiT_far (j : Nat) (v : Value) (w w' : World) (row : Option Nat) (h : phiT n B oa ca P p j v w) (hg : w.grownBy w' row) (h0 : j ≠ 0) (h3 : j ≠ 3) (h6 : j ≠ 6)
    (h5 : j = 5 → ∀ g, row = some g → w.heap[g]? = some (.cells #[] 38 (0, 0))) : phiT n B oa ca P p j v w' := by
  unfold phiT at h ⊢
  split <;> simp only [] at h
  all_goals first
    | exact h
    | exact absurd rfl h0
    | exact absurd rfl h3
    | exact absurd rfl h6
    | (obtain ⟨g, e, h3⟩ := h; refine ⟨g, e, block_far h3 hg (fun g' hg' e' => ?_)⟩; rw [h5 rfl g' hg'] at e'; cases e')
end

def spoilT (i k : Nat) : Bool := (i == 3 && k == 0) || (i == 6 && (k == 0 || k == 3 || k == 5))
def reachT (j k : Nat) : Bool := j == 6 && k == 3

theorem own_noneT {w : World} {L : List TP} (h : TapsAt w none L) : L.length = 0 := by
  cases L with
  | nil => rfl
  | cons x L => obtain ⟨b, e, -⟩ := h 0 x rfl; cases e

theorem own_formT {w : World} {base n : Nat} {e : TypeId} {size : Nat} {v : Value} {xs : List Value} (h : w.ownsRow base e size v n xs) (hn : 0 < n) : ∃ g c, v = .slice (some ⟨g, 0, none⟩) n c ∧ base ≤ g := by
  rcases h.2 with ⟨-, h0⟩ | ⟨g, c, cur, rfl, h1, h2, h3, h4⟩
  · omega
  · exact ⟨g, c, rfl, h1⟩

theorem cells_blockT {w : World} {b : Nat} {cur : Array Value} {e : TypeId} (h : w.heap[b]? = some (.cells cur e (0, 0))) : ∀ j u, cur.toList[j]? = some u → w.cell? ((⟨b, 0, none⟩ : Addr).add j) = some u := by
  intro j u hj
  have : (⟨b, 0, none⟩ : Addr).add j = ⟨b, j, none⟩ := by
    by_cases h : j = 0
    · subst h; simp [Addr.add]
    · simp [Addr.add, h]
  rw [this, cell_of_row _ _ j _ _ _ h]
  simpa using hj

theorem ownsRow_setT {w : World} {base n g c size : Nat} {e : TypeId} {xs : List Value} (h : w.ownsRow base e size (.slice (some ⟨g, 0, none⟩) n c) n xs) (p : Addr) (hp : p.block ≠ g) (u : Value) : (w.setCell p u).ownsRow base e size (.slice (some ⟨g, 0, none⟩) n c) n xs := by
  refine ⟨h.1, ?_⟩
  rcases h.2 with h' | ⟨g', c', cur, e', h1, h2, h3⟩
  · exact Or.inl h'
  · refine Or.inr ⟨g', c', cur, e', h1, ?_, h3⟩
    simp only [Value.slice.injEq, Option.some.injEq, Addr.mk.injEq, and_true, true_and] at e'
    obtain ⟨rfl, rfl⟩ := e'
    rw [heap_setCell_other _ _ _ _ (fun hh => hp hh.symm)]
    exact h2

theorem errB_l {l u : Int} (h : errB l u = 0) : 0 ≤ l ∧ l ≤ 9 := by
  unfold errB at h
  cases h1 : wi l 0 9
  · rw [h1] at h; cases h
  · exact (wi_iff _ _ _).1 h1

set_option maxHeartbeats 12800000 in
set_option maxRecDepth 100000 in
theorem tapOf_any (i z s : Int) (oa : Option Addr) (P : List TP) (ca : Nat) (v : Int) (od : Option Addr) (D : List Int) (cd : Nat) (l u : Int) (ti k f t y r m : Int) (w : World) (hP : TapsAt w oa P) (hD : IntsAt w od D) (hn : oa = none → ca = 0) (hc1 : chkG i z s P v D l u = 0) (hc2 : chkK (⟨ti, k, f, t, y, r⟩ : TK) = 0) :
    Calls Try.prog 31 #[gtV i z s oa P.length ca v od D.length cd l u, tk ti k f t y r, .int .i64 m] w fun e w' => ((tapG i z s P v D l u ⟨ti, k, f, t, y, r⟩ m ≠ 0 ∧ e = .returned (.tuple #[gtV 0 0 0 none 0 0 0 none 0 0 0 0, tp 0 0 0 0 0, .int .i64 (tapG i z s P v D l u ⟨ti, k, f, t, y, r⟩ m)])) ∨ (tapG i z s P v D l u ⟨ti, k, f, t, y, r⟩ m = 0 ∧ ∃ o c, e = .returned (.tuple #[gtV i z (s + 1) o (P.length + 1) c v od D.length cd (l - 1) u, tp ti i (s + 1) m z, .int .i64 0]) ∧ TapsV w' (.slice o (P.length + 1) c) (P ++ [⟨ti, i, s + 1, m, z⟩]) ∧ Fresh w.heap.size (.slice o (P.length + 1) c))) ∧ Below w.heap.size w w' := by
  have hg := chkG_right hc1
  have hs := errS_right hg.1
  have hzz := (chk_right (i := ti) (k := k) (f := f) (t := t) (z := y) (r := r) hc2).2.2.2.1
  have hz : isZ z = true := hs.2.2.1
  have hlP : P.length ≤ 12 := hs.2.2.2
  have HG := hide (((((Blks.nil w).more (.cells #[.int .i64 i, .int .i64 z, .int .i64 s, .slice oa P.length ca, .int .i64 v, .slice od D.length cd, .int .i64 l, .int .i64 u] 61) (by simp)).more (.cells #[.int .i64 ti, .int .i64 k, .int .i64 f, .int .i64 t, .int .i64 y, .int .i64 r] 28) (by simp)).more (.cells #[.int .i64 0, .int .i64 0, .int .i64 0, .slice none 0 0, .int .i64 0, .slice none 0 0, .int .i64 0, .int .i64 0] 61) (by simp)).more (.cells #[.int .i64 0, .int .i64 0, .int .i64 0, .int .i64 0, .int .i64 0] 38) (by simp))
  have HP := hide hP
  have HD := hide hD
  have HI := hide (fun W (h : IntsAt W od D) => hasInt_any D ti od cd W h (by have := chkD_right hg.2.2.1; omega))
  have HW := hide (tapOf_ways (i := i) (z := z) (s := s) (P := P) (v := v) (D := D) (l := l) (u := u) (x := (⟨ti, k, f, t, y, r⟩ : TK)) m hc1 hc2)
  have HEW := hide (earlyG_ways P m)
  have HQ : Hid (∃ q : Int, (BinOp.quo, q) = (BinOp.quo, q)) := hide ⟨0, rfl⟩
  have hzc : z = 1 ∨ z = 2 ∨ z = 4 ∨ z = 8 := by simpa [isZ, or_assoc] using hz
  obtain ⟨hy1, hy2⟩ := hzz
  have hz0 : ¬ z = 0 := by omega
  have hz0' : (z == 0) = false := by simpa using hz0
  have hq3 : y.tdiv z = y / z := by rw [Int.tdiv_eq_ediv_of_nonneg (by omega)]
  have hq0 : 0 ≤ y / z ∧ y / z ≤ 15 := by rcases hzc with rfl | rfl | rfl | rfl <;> omega
  have hq2 : IntKind.i64.wrap (y / z) = y / z := by rw [IntKind.wrap_i64]; omega
  have hr1 : (y / z).tmod 2 = y / z % 2 := by rw [Int.tmod_eq_emod_of_nonneg (by omega)]
  have hs01 := hs.2.1
  have HLb := hide (errB_l hg.2.2.2)
  clear hP hD hc1 hc2 hg hs HQ hzc hq0
  simp only [] at HW
  generalize tapG i z s P v D l u ⟨ti, k, f, t, y, r⟩ m = E at *
  go_enter Try.func31, Try.ntmps31
  go_wp2_with fail
  go_loopw [10, 11] (fun s10 s11 wr => ∃ (q : Nat) (b : Bool), q ≤ P.length ∧ s11 = .int .i64 q ∧ s10 = .bool b ∧ Hid (hasA (P.take q) ti = b) ∧ Hid (Blks w wr ([] ++ [.cells #[.int .i64 i, .int .i64 z, .int .i64 s, .slice oa P.length ca, .int .i64 v, .slice od D.length cd, .int .i64 l, .int .i64 u] 61] ++ [.cells #[.int .i64 ti, .int .i64 k, .int .i64 f, .int .i64 t, .int .i64 y, .int .i64 r] 28] ++ [.cells #[.int .i64 0, .int .i64 0, .int .i64 0, .slice none 0 0, .int .i64 0, .slice none 0 0, .int .i64 0, .int .i64 0] 61] ++ [.cells #[.int .i64 0, .int .i64 0, .int .i64 0, .int .i64 0, .int .i64 0] 38]))) (fun _ s11 _ => P.length - (intOf s11).toNat)
  case atStart => exact ⟨0, false, Nat.zero_le _, rfl, rfl, rfl, HG⟩
  case round =>
    obtain ⟨q, b, hq, rfl, rfl, hb, HB⟩ := hrel
    by_cases hgo : q < P.length
    · obtain ⟨p, hp⟩ : ∃ p, P[q]? = some p := ⟨P[q], by simp [hgo]⟩
      obtain ⟨A, rfl, e0, e1, e2, e3, e4⟩ := HP.out.below HB.out.2.2 q p hp
      have HS : Hid (hasA (P.take (q + 1)) ti = (b || p.a == ti)) := by
        show _ = _
        rw [List.take_add_one, hp, Option.toList_some, hasA_snoc, hb.out]
      have x3 := cell_regrown (HB.out.cell 0 3 w.heap.size _ _ _ rfl rfl rfl)
      have k0 := cell_regrown (HB.out.cell 1 0 (w.heap.size + 1) _ _ _ rfl rfl rfl)
      have f0 := cell_regrown e0
      clear hp hb e0 e1 e2 e3 e4
      go_wp2_with fail
      cases b
      · cases g1 : (p.a == ti)
        all_goals
          rw [g1] at HS
          refine wp_region_quiet_below (by kernel_rfl) (by kernel_rfl) ?_
          iterate 13
            refine wpQuiet_step (fun K hK => ?_)
            try subst hact
            go_simp
            try refine ite_of_not (by intro h; cases h) ?_
            generalize hact : ({ tmps := _, defers := _ } : Act) = aa
            refine hK aa ?_
            clear hK K
          try subst hact
          refine wpQuiet_nil ?_
          intro _ hw'
          obtain ⟨⟨dq, osq⟩, hw''⟩ := hw'
          subst hw''

          have HB2 := hide (HB.out.on (below_regrown wr dq osq))
          clear HB x3 k0 f0
          generalize Sort.grow (redrawn wr dq) osq = w3 at *
          go_wp2_with fail
          exact ⟨⟨q + 1, _, by omega, by simp, rfl, HS, HB2⟩, by simp [intOf]; omega⟩
      · rw [Bool.true_or] at HS
        refine wp_region_quiet_below (by kernel_rfl) (by kernel_rfl) ?_
        iterate 13
          refine wpQuiet_step (fun K hK => ?_)
          try subst hact
          go_simp
          try refine ite_of_not (by intro h; cases h) ?_
          generalize hact : ({ tmps := _, defers := _ } : Act) = aa
          refine hK aa ?_
          clear hK K
        try subst hact
        refine wpQuiet_nil ?_
        intro _ hw'
        obtain ⟨⟨dq, osq⟩, hw''⟩ := hw'
        subst hw''

        have HB2 := hide (HB.out.on (below_regrown wr dq osq))
        clear HB x3 k0 f0
        generalize Sort.grow (redrawn wr dq) osq = w3 at *
        go_wp2_with fail
        exact ⟨⟨q + 1, _, by omega, by simp, rfl, HS, HB2⟩, by simp [intOf]; omega⟩
    · have hb' : hasA P ti = b := by
        have := hb.out
        rw [List.take_of_length_le (by omega)] at this
        exact this
      have HBb := hide hb'
      clear hb hb'
      go_upto_block 2 with fail
      go_cut [12] from 14 (fun s12 wx => s12 = .int .i64 E ∧ Blks w wx ([] ++ [.cells #[.int .i64 i, .int .i64 z, .int .i64 s, .slice oa P.length ca, .int .i64 v, .slice od D.length cd, .int .i64 l, .int .i64 u] 61] ++ [.cells #[.int .i64 ti, .int .i64 k, .int .i64 f, .int .i64 t, .int .i64 y, .int .i64 r] 28] ++ [.cells #[.int .i64 0, .int .i64 0, .int .i64 0, .slice none 0 0, .int .i64 0, .slice none 0 0, .int .i64 0, .int .i64 0] 61] ++ [.cells #[.int .i64 0, .int .i64 0, .int .i64 0, .int .i64 0, .int .i64 0] 38]))
      case first =>
        rcases HW.out with ⟨a1, e⟩ | ⟨a1, hrest⟩
        · have HE := hide e
          have HK1 := HB
          clear e HW HEW
          go_wp2_with first
            | (go_at_call 60; refine (between_any _ _ _ _).mono ?_; rintro e w' ⟨rfl, rfl⟩; rw [a1])
            | (go_at_call 25; refine (HI.out _ (HD.out.below HK1.out.2.2)).mono ?_; rintro e w' ⟨rfl, rfl⟩; rw [a3])
          go_meet
          case rel => exact ⟨by rw [HE.out], HK1.out⟩
        · have HRest := hide hrest
          clear hrest HW
          have HK1 := HB
          go_upto_region 10 with (go_at_call 60; refine (between_any _ _ _ _).mono ?_; rintro e w' ⟨rfl, rfl⟩; rw [a1])
          go_cut [38] from 14 (fun s38 wx => s38 = .bool (earlyG P m) ∧ Blks w wx ([] ++ [.cells #[.int .i64 i, .int .i64 z, .int .i64 s, .slice oa P.length ca, .int .i64 v, .slice od D.length cd, .int .i64 l, .int .i64 u] 61] ++ [.cells #[.int .i64 ti, .int .i64 k, .int .i64 f, .int .i64 t, .int .i64 y, .int .i64 r] 28] ++ [.cells #[.int .i64 0, .int .i64 0, .int .i64 0, .slice none 0 0, .int .i64 0, .slice none 0 0, .int .i64 0, .int .i64 0] 61] ++ [.cells #[.int .i64 0, .int .i64 0, .int .i64 0, .int .i64 0, .int .i64 0] 38]))
          case first =>
            have x3 := HK1.out.cell 0 3 w.heap.size _ _ _ rfl rfl rfl
            rcases HEW.out with ⟨hn, e⟩ | ⟨n, x, hn, hx, ho⟩
            · have HE := hide e
              have g0 : ¬ 0 < P.length := by omega
              clear e hn HEW HRest
              go_wp2_with fail
              go_meet
              case rel => exact ⟨by rw [HE.out], HK1.out⟩
            · obtain ⟨A, hA, e0, e1, e2, e3, e4⟩ := HP.out.below HK1.out.2.2 n x hx
              rw [hA] at x3
              have g0 : 0 < P.length := by omega
              have hwr : IntKind.i64.wrap ((P.length : Int) - 1) = (n : Int) := by rw [IntKind.wrap_i64]; omega
              have hk0 : (0 : Int) ≤ (n : Int) := by omega
              have hkl : (n : Int) < (P.length : Int) := by omega
              clear hn hx hA HEW HRest
              rcases ho with ⟨g2, e⟩ | ⟨g2, e⟩
              all_goals
                have HE := hide e
                clear e
                go_wp2_with fail
                go_meet
                case rel => exact ⟨by rw [HE.out], HK1.out⟩
          case rest =>
            obtain ⟨rfl, hbk⟩ := hcut
            have HK1 := hide hbk
            clear hbk HB HEW
            have x0 := HK1.out.cell 0 0 w.heap.size _ _ _ rfl rfl rfl
            have x1 := HK1.out.cell 0 1 w.heap.size _ _ _ rfl rfl rfl
            have x2 := HK1.out.cell 0 2 w.heap.size _ _ _ rfl rfl rfl
            have x3 := HK1.out.cell 0 3 w.heap.size _ _ _ rfl rfl rfl
            have x4 := HK1.out.cell 0 4 w.heap.size _ _ _ rfl rfl rfl
            have x5 := HK1.out.cell 0 5 w.heap.size _ _ _ rfl rfl rfl
            have x6 := HK1.out.cell 0 6 w.heap.size _ _ _ rfl rfl rfl
            have x7 := HK1.out.cell 0 7 w.heap.size _ _ _ rfl rfl rfl
            have k0 := HK1.out.cell 1 0 (w.heap.size + 1) _ _ _ rfl rfl rfl
            have k1 := HK1.out.cell 1 1 (w.heap.size + 1) _ _ _ rfl rfl rfl
            have k2 := HK1.out.cell 1 2 (w.heap.size + 1) _ _ _ rfl rfl rfl
            have k3 := HK1.out.cell 1 3 (w.heap.size + 1) _ _ _ rfl rfl rfl
            have k4 := HK1.out.cell 1 4 (w.heap.size + 1) _ _ _ rfl rfl rfl
            have k5 := HK1.out.cell 1 5 (w.heap.size + 1) _ _ _ rfl rfl rfl
            rcases HRest.out with ⟨a2, e⟩ | ⟨a2, ⟨a3, e⟩ | ⟨a3, ⟨a4, e⟩ | ⟨a4, a5, e⟩ | ⟨a4, a5, ⟨a6, e⟩ | ⟨a6, hr⟩⟩⟩⟩
            · have HE := hide e
              clear e HRest
              rw [a2]
              go_wp2_with first
                | (go_at_call 60; refine (between_any _ _ _ _).mono ?_; rintro e w' ⟨rfl, rfl⟩)
                | (go_at_call 25; refine (HI.out _ (HD.out.below HK1.out.2.2)).mono ?_; rintro e w' ⟨rfl, rfl⟩; rw [a3])
              go_meet
              case rel => exact ⟨by rw [HE.out], HK1.out⟩
            · have HE := hide e
              clear e HRest
              rw [a2]
              go_wp2_with first
                | (go_at_call 60; refine (between_any _ _ _ _).mono ?_; rintro e w' ⟨rfl, rfl⟩)
                | (go_at_call 25; refine (HI.out _ (HD.out.below HK1.out.2.2)).mono ?_; rintro e w' ⟨rfl, rfl⟩; rw [a3])
              go_meet
              case rel => exact ⟨by rw [HE.out], HK1.out⟩
            · have HE := hide e
              clear e HRest
              rw [a2]
              go_wp2_with first
                | (go_at_call 60; refine (between_any _ _ _ _).mono ?_; rintro e w' ⟨rfl, rfl⟩)
                | (go_at_call 25; refine (HI.out _ (HD.out.below HK1.out.2.2)).mono ?_; rintro e w' ⟨rfl, rfl⟩; rw [a3])
              go_meet
              case rel => exact ⟨by rw [HE.out], HK1.out⟩
            · have HE := hide e
              clear e HRest
              rw [a2]
              go_wp2_with first
                | (go_at_call 60; refine (between_any _ _ _ _).mono ?_; rintro e w' ⟨rfl, rfl⟩; rw [a5])
                | (go_at_call 25; refine (HI.out _ (HD.out.below HK1.out.2.2)).mono ?_; rintro e w' ⟨rfl, rfl⟩; rw [a3])
              go_meet
              case rel => exact ⟨by rw [HE.out], HK1.out⟩
            · have HE := hide e
              clear e HRest
              rw [a2]
              go_wp2_with first
                | (go_at_call 60; refine (between_any _ _ _ _).mono ?_; rintro e w' ⟨rfl, rfl⟩; rw [a5])
                | (go_at_call 25; refine (HI.out _ (HD.out.below HK1.out.2.2)).mono ?_; rintro e w' ⟨rfl, rfl⟩; rw [a3])
              go_meet
              case rel => exact ⟨by rw [HE.out], HK1.out⟩
            · clear HRest
              rw [a2]
              have a6' : (y / z % 2 == 0) = false := by simpa using a6
              clear a6
              rcases hr with ⟨b1, e⟩ | ⟨b1, b2, b3, e⟩ | ⟨b1, b2, hr⟩
              · have HE := hide e
                clear e
                go_wp2_with first
                  | (go_at_call 60; refine (between_any _ _ _ _).mono ?_; rintro e w' ⟨rfl, rfl⟩; rw [a5])
                  | (go_at_call 25; refine (HI.out _ (HD.out.below HK1.out.2.2)).mono ?_; rintro e w' ⟨rfl, rfl⟩; rw [a3])
                go_meet
                case rel => exact ⟨by rw [HE.out], HK1.out⟩
              · have HE := hide e
                have hbt := HBb.out.symm.trans b3
                clear e b3
                subst hbt
                go_wp2_with first
                  | (go_at_call 60; refine (between_any _ _ _ _).mono ?_; rintro e w' ⟨rfl, rfl⟩; rw [a5])
                  | (go_at_call 25; refine (HI.out _ (HD.out.below HK1.out.2.2)).mono ?_; rintro e w' ⟨rfl, rfl⟩; rw [a3])
                go_meet
                case rel => exact ⟨by rw [HE.out], HK1.out⟩
              · have hb2 : (k != 2) = false ∨ ((k != 2) = true ∧ b = false) := by
                  rcases b2 with h | ⟨h, h'⟩
                  · exact Or.inl h
                  · exact Or.inr ⟨h, HBb.out.symm.trans h'⟩
                clear b2
                rcases hr with ⟨d1, e⟩ | ⟨d1, d2, e⟩ | ⟨d1, d2, e⟩
                all_goals
                  have HE := hide e
                  clear e
                  rcases hb2 with g1 | ⟨g1, rfl⟩
                  all_goals
                    go_wp2_with first
                      | (go_at_call 60; refine (between_any _ _ _ _).mono ?_; rintro e w' ⟨rfl, rfl⟩; rw [a5])
                      | (go_at_call 25; refine (HI.out _ (HD.out.below HK1.out.2.2)).mono ?_; rintro e w' ⟨rfl, rfl⟩; rw [a3])
                    go_meet
                    case rel => exact ⟨by rw [HE.out], HK1.out⟩
      case rest =>
        obtain ⟨rfl, hbk⟩ := hcut
        have HK1 := hide hbk
        clear hbk HB HW HEW HI
        have x0 := HK1.out.cell 0 0 w.heap.size _ _ _ rfl rfl rfl
        have x1 := HK1.out.cell 0 1 w.heap.size _ _ _ rfl rfl rfl
        have x2 := HK1.out.cell 0 2 w.heap.size _ _ _ rfl rfl rfl
        have x3 := HK1.out.cell 0 3 w.heap.size _ _ _ rfl rfl rfl
        have x4 := HK1.out.cell 0 4 w.heap.size _ _ _ rfl rfl rfl
        have x5 := HK1.out.cell 0 5 w.heap.size _ _ _ rfl rfl rfl
        have x6 := HK1.out.cell 0 6 w.heap.size _ _ _ rfl rfl rfl
        have x7 := HK1.out.cell 0 7 w.heap.size _ _ _ rfl rfl rfl
        have k0 := HK1.out.cell 1 0 (w.heap.size + 1) _ _ _ rfl rfl rfl
        have k1 := HK1.out.cell 1 1 (w.heap.size + 1) _ _ _ rfl rfl rfl
        have k2 := HK1.out.cell 1 2 (w.heap.size + 1) _ _ _ rfl rfl rfl
        have k3 := HK1.out.cell 1 3 (w.heap.size + 1) _ _ _ rfl rfl rfl
        have k4 := HK1.out.cell 1 4 (w.heap.size + 1) _ _ _ rfl rfl rfl
        have k5 := HK1.out.cell 1 5 (w.heap.size + 1) _ _ _ rfl rfl rfl
        have r0 := HK1.out.cell 2 0 (w.heap.size + 1 + 1) _ _ _ rfl rfl rfl
        have r1 := HK1.out.cell 2 1 (w.heap.size + 1 + 1) _ _ _ rfl rfl rfl
        have r2 := HK1.out.cell 2 2 (w.heap.size + 1 + 1) _ _ _ rfl rfl rfl
        have r3 := HK1.out.cell 2 3 (w.heap.size + 1 + 1) _ _ _ rfl rfl rfl
        have r4 := HK1.out.cell 2 4 (w.heap.size + 1 + 1) _ _ _ rfl rfl rfl
        have r5 := HK1.out.cell 2 5 (w.heap.size + 1 + 1) _ _ _ rfl rfl rfl
        have r6 := HK1.out.cell 2 6 (w.heap.size + 1 + 1) _ _ _ rfl rfl rfl
        have r7 := HK1.out.cell 2 7 (w.heap.size + 1 + 1) _ _ _ rfl rfl rfl
        have q0 := HK1.out.frozen 2 0 (w.heap.size + 1 + 1) _ _ rfl rfl
        have q1 := HK1.out.frozen 2 1 (w.heap.size + 1 + 1) _ _ rfl rfl
        have q2 := HK1.out.frozen 2 2 (w.heap.size + 1 + 1) _ _ rfl rfl
        have q3 := HK1.out.frozen 2 3 (w.heap.size + 1 + 1) _ _ rfl rfl
        have q4 := HK1.out.frozen 2 4 (w.heap.size + 1 + 1) _ _ rfl rfl
        have q5 := HK1.out.frozen 2 5 (w.heap.size + 1 + 1) _ _ rfl rfl
        have q6 := HK1.out.frozen 2 6 (w.heap.size + 1 + 1) _ _ rfl rfl
        have q7 := HK1.out.frozen 2 7 (w.heap.size + 1 + 1) _ _ rfl rfl
        have p0 := HK1.out.cell 3 0 (w.heap.size + 1 + 1 + 1) _ _ _ rfl rfl rfl
        have p1 := HK1.out.cell 3 1 (w.heap.size + 1 + 1 + 1) _ _ _ rfl rfl rfl
        have p2 := HK1.out.cell 3 2 (w.heap.size + 1 + 1 + 1) _ _ _ rfl rfl rfl
        have p3 := HK1.out.cell 3 3 (w.heap.size + 1 + 1 + 1) _ _ _ rfl rfl rfl
        have p4 := HK1.out.cell 3 4 (w.heap.size + 1 + 1 + 1) _ _ _ rfl rfl rfl
        have o0 := HK1.out.frozen 3 0 (w.heap.size + 1 + 1 + 1) _ _ rfl rfl
        have o1 := HK1.out.frozen 3 1 (w.heap.size + 1 + 1 + 1) _ _ rfl rfl
        have o2 := HK1.out.frozen 3 2 (w.heap.size + 1 + 1 + 1) _ _ rfl rfl
        have o3 := HK1.out.frozen 3 3 (w.heap.size + 1 + 1 + 1) _ _ rfl rfl
        have o4 := HK1.out.frozen 3 4 (w.heap.size + 1 + 1 + 1) _ _ rfl rfl
        by_cases hE : E = 0
        · subst hE
          clear r0 r1 r2 r3 r4 r5 r6 r7 q0 q1 q2 q3 q4 q5 q6 q7 p0 p1 p2 p3 p4 o0 o1 o2 o3 o4
          have i2 := HK1.out.frozen 0 2 w.heap.size _ _ rfl rfl
          have i6 := HK1.out.frozen 0 6 w.heap.size _ _ rfl rfl
          have hl4 := HK1.out.lt 0 w.heap.size (by simp) rfl
          obtain ⟨hl0, hl9⟩ := HLb.out
          have hws : IntKind.i64.wrap (s + 1) = s + 1 := by rw [IntKind.wrap_i64]; omega
          have hwl : IntKind.i64.wrap (l - 1) = l - 1 := by rw [IntKind.wrap_i64]; omega
          go_wp2_with fail
          have HK2 : Hid (Blks w ((wc.setCell ⟨w.heap.size, 2, none⟩ (.int .i64 (s + 1))).setCell ⟨w.heap.size, 6, none⟩ (.int .i64 (l - 1))) ([] ++ [.cells #[.int .i64 i, .int .i64 z, .int .i64 (s + 1), .slice oa P.length ca, .int .i64 v, .slice od D.length cd, .int .i64 (l - 1), .int .i64 u] 61] ++ [.cells #[.int .i64 ti, .int .i64 k, .int .i64 f, .int .i64 t, .int .i64 y, .int .i64 r] 28] ++ [.cells #[.int .i64 0, .int .i64 0, .int .i64 0, .slice none 0 0, .int .i64 0, .slice none 0 0, .int .i64 0, .int .i64 0] 61] ++ [.cells #[.int .i64 0, .int .i64 0, .int .i64 0, .int .i64 0, .int .i64 0] 38])) := hide ((HK1.out.put 0 2 w.heap.size _ _ (.int .i64 (s + 1)) rfl rfl).put 0 6 w.heap.size _ _ (.int .i64 (l - 1)) rfl rfl)
          have hsd : ((wc.setCell ⟨w.heap.size, 2, none⟩ (.int .i64 (s + 1))).setCell ⟨w.heap.size, 6, none⟩ (.int .i64 (l - 1))).heap.size = wc.heap.size := by simp
          generalize (wc.setCell ⟨w.heap.size, 2, none⟩ (.int .i64 (s + 1))).setCell ⟨w.heap.size, 6, none⟩ (.int .i64 (l - 1)) = wd at *
          have HPb := hide ((Blks.nil wd).more (.cells #[.int .i64 ti, .int .i64 i, .int .i64 (s + 1), .int .i64 m, .int .i64 z] 38) (by simp))
          have HK3 := hide (HK2.out.on HPb.out.2.2)
          have hsw := HK2.out.2.1
          simp only [List.length_append, List.length_cons, List.length_nil] at hsw
          clear HK1 HK2 x0 x1 x2 x3 x4 x5 x6 x7 k0 k1 k2 k3 k4 k5 i2 i6 hl4
          generalize wd.alloc (.cells #[.int .i64 ti, .int .i64 i, .int .i64 (s + 1), .int .i64 m, .int .i64 z] 38) = wa at *
          refine wp_region_any (by kernel_rfl) ?_
          refine wpAny_makersS spoilT reachT (fun w' => Blks w w' ([] ++ [.cells #[.int .i64 i, .int .i64 z, .int .i64 (s + 1), .slice oa P.length ca, .int .i64 v, .slice od D.length cd, .int .i64 (l - 1), .int .i64 u] 61] ++ [.cells #[.int .i64 ti, .int .i64 k, .int .i64 f, .int .i64 t, .int .i64 y, .int .i64 r] 28] ++ [.cells #[.int .i64 0, .int .i64 0, .int .i64 0, .slice none 0 0, .int .i64 0, .slice none 0 0, .int .i64 0, .int .i64 0] 61] ++ [.cells #[.int .i64 0, .int .i64 0, .int .i64 0, .int .i64 0, .int .i64 0] 38]) ∧ Blks wd w' ([] ++ [.cells #[.int .i64 ti, .int .i64 i, .int .i64 (s + 1), .int .i64 m, .int .i64 z] 38])) (phiT w.heap.size (wd.heap.size + 1) oa ca P (⟨ti, i, s + 1, m, z⟩ : TP)) 8 1 #[false] [129, 130, 131, 132, 133, 134, 135, 136] (by kernel_rfl) (by kernel_rfl) (by kernel_rfl) (by kernel_rfl) (by kernel_rfl) 140 rfl (by kernel_rfl) ?_ ?_ ?_
          · exact ⟨HK3.out.on (Below.refl _ _).drew, HPb.out.on (Below.refl _ _).drew⟩
          · clear HK3 HPb
            intro kk o hk ho aa w' hS hd hb K' hK
            have b3 : aa.tmps[3]?.getD undef = .pointer (some ⟨w.heap.size, 0, none⟩) := ev_of ((hb 3 (by intro j hj; revert j; decide +kernel)).trans rfl)
            have b13 : aa.tmps[13]?.getD undef = .pointer (some ⟨wc.heap.size, 0, none⟩) := ev_of ((hb 13 (by intro j hj; revert j; decide +kernel)).trans rfl)
            clear hb
            match kk, hk, ho, hK with
            | 0, _, ho, hK =>
              simp only [List.getElem?_toArray, List.getElem?_cons_zero, Option.some.injEq] at ho
              subst ho
              simp only [] at hd hK
              clear hd
              have hbd := (Below.refl w'.heap.size w').alloc (Nat.le_refl _) (.cells #[] 38)
              have hsz1 := hS.1.2.1
              have hsz := hS.2.2.1
              simp only [List.length_append, List.length_cons, List.length_nil] at hsz hsz1
              go_simp
              exact hK _ _ ⟨w'.heap.size, rfl, by omega, heap_alloc_new _ _⟩ ⟨hS.1.on hbd, hS.2.on hbd⟩ (fun j u _ _ _ _ h => phiT_below j u _ _ h hbd)
            | 1, _, ho, hK =>
              simp only [List.getElem?_toArray, List.getElem?_cons_zero, List.getElem?_cons_succ, Option.some.injEq] at ho
              subst ho
              simp only [] at hd hK
              clear hd
              go_simp
              exact hK _ _ rfl hS (fun _ _ _ _ _ _ h => h)
            | 2, _, ho, hK =>
              simp only [List.getElem?_toArray, List.getElem?_cons_zero, List.getElem?_cons_succ, Option.some.injEq] at ho
              subst ho
              simp only [] at hd hK
              have d0 : aa.eval (.tmp 130) = .pointer (some ⟨w.heap.size, 3, none⟩) := hd ⟨1, .data⟩ (by simp) rfl (by intro j hj; revert j; decide +kernel)
              have d0 := ev_of d0
              have x0 := hS.1.cell 0 0 w.heap.size _ _ _ rfl rfl rfl
              have x1 := hS.1.cell 0 1 w.heap.size _ _ _ rfl rfl rfl
              have x2 := hS.1.cell 0 2 w.heap.size _ _ _ rfl rfl rfl
              have x3 := hS.1.cell 0 3 w.heap.size _ _ _ rfl rfl rfl
              have x4 := hS.1.cell 0 4 w.heap.size _ _ _ rfl rfl rfl
              have x5 := hS.1.cell 0 5 w.heap.size _ _ _ rfl rfl rfl
              have x6 := hS.1.cell 0 6 w.heap.size _ _ _ rfl rfl rfl
              have x7 := hS.1.cell 0 7 w.heap.size _ _ _ rfl rfl rfl
              have y0 := hS.2.cell 0 0 wc.heap.size _ _ _ rfl (by omega) rfl
              have y1 := hS.2.cell 0 1 wc.heap.size _ _ _ rfl (by omega) rfl
              have y2 := hS.2.cell 0 2 wc.heap.size _ _ _ rfl (by omega) rfl
              have y3 := hS.2.cell 0 3 wc.heap.size _ _ _ rfl (by omega) rfl
              have y4 := hS.2.cell 0 4 wc.heap.size _ _ _ rfl (by omega) rfl
              clear hd
              go_simp
              exact hK _ _ rfl hS (fun _ _ _ _ _ _ h => h)
            | 3, _, ho, hK =>
              simp only [List.getElem?_toArray, List.getElem?_cons_zero, List.getElem?_cons_succ, Option.some.injEq] at ho
              subst ho
              simp only [] at hd hK
              obtain ⟨g2, d0, hg2, hh2⟩ : ∃ g, aa.eval (.tmp 129) = .slice (some ⟨g, 0, none⟩) 0 0 ∧ wd.heap.size + 1 ≤ g ∧ w'.heap[g]? = some (.cells #[] 38 (0, 0)) := hd ⟨0, .data⟩ (by simp) rfl (by intro j hj; revert j; decide +kernel)
              have d1 : aa.eval (.tmp 131) = .slice oa P.length ca := hd ⟨2, .data⟩ (by simp) rfl (by intro j hj; revert j; decide +kernel)
              have hsz1 := hS.1.2.1
              have hsz := hS.2.2.1
              simp only [List.length_append, List.length_cons, List.length_nil] at hsz hsz1
              clear hd
              obtain ⟨i0, hi0, hz0, hz1, hz2⟩ := info_parts info32
              refine wp_append_row _ _ 23 rfl (wd.heap.size + 1) 38 i0 _ 5 40 Try.underlying23 hi0 hz0 hz1 hz2 rfl (by decide) _ 0 [] d0 ⟨rfl, Or.inr ⟨g2, 0, #[], rfl, hg2, hh2, Nat.le_refl _, by decide, rfl, rfl⟩⟩ oa P.length ca (cellsP P) d1 (cellsP_len P) (fun ad e => taps_cells (e ▸ HP.out.below hS.1.2.2)) (oneP P) (fun e => ⟨own_noneT (e ▸ HP.out), hn e⟩) (by unfold maxLen; omega) (by omega) (by omega) ?_
              intro v' w'' hown hgr
              have hrow : ∀ k, (Value.slice (some ⟨g2, 0, none⟩) 0 0).ownBlock = some k → wd.heap.size + 1 ≤ k := fun k hk => by simp [Value.ownBlock] at hk; omega
              refine hK _ _ (by rw [Nat.zero_add, List.nil_append] at hown; exact hown) ⟨hS.1.keep ((Below.refl _ _).grown hgr (by simp; omega) (fun k hk => by have := hrow k hk; simp; omega)), hS.2.keep ((Below.refl _ _).grown hgr (by simp; omega) (fun k hk => by have := hrow k hk; simp; omega))⟩ (fun j u hj hjk hsp hre h => ?_)
              refine phiT_far j u _ _ _ h hgr (fun e => by subst e; cases hsp) hjk (fun e => by subst e; cases hre) (fun _ g hg => ?_)
              simp [Value.ownBlock] at hg; subst hg; exact hh2
            | 4, _, ho, hK =>
              simp only [List.getElem?_toArray, List.getElem?_cons_zero, List.getElem?_cons_succ, Option.some.injEq] at ho
              subst ho
              simp only [] at hd hK
              have x0 := hS.1.cell 0 0 w.heap.size _ _ _ rfl rfl rfl
              have x1 := hS.1.cell 0 1 w.heap.size _ _ _ rfl rfl rfl
              have x2 := hS.1.cell 0 2 w.heap.size _ _ _ rfl rfl rfl
              have x3 := hS.1.cell 0 3 w.heap.size _ _ _ rfl rfl rfl
              have x4 := hS.1.cell 0 4 w.heap.size _ _ _ rfl rfl rfl
              have x5 := hS.1.cell 0 5 w.heap.size _ _ _ rfl rfl rfl
              have x6 := hS.1.cell 0 6 w.heap.size _ _ _ rfl rfl rfl
              have x7 := hS.1.cell 0 7 w.heap.size _ _ _ rfl rfl rfl
              have y0 := hS.2.cell 0 0 wc.heap.size _ _ _ rfl (by omega) rfl
              have y1 := hS.2.cell 0 1 wc.heap.size _ _ _ rfl (by omega) rfl
              have y2 := hS.2.cell 0 2 wc.heap.size _ _ _ rfl (by omega) rfl
              have y3 := hS.2.cell 0 3 wc.heap.size _ _ _ rfl (by omega) rfl
              have y4 := hS.2.cell 0 4 wc.heap.size _ _ _ rfl (by omega) rfl
              clear hd
              go_simp
              exact hK _ _ rfl hS (fun _ _ _ _ _ _ h => h)
            | 5, _, ho, hK =>
              simp only [List.getElem?_toArray, List.getElem?_cons_zero, List.getElem?_cons_succ, Option.some.injEq] at ho
              subst ho
              simp only [] at hd hK
              have d0 : aa.eval (.tmp 133) = tp ti i (s + 1) m z := hd ⟨4, .data⟩ (by simp) rfl (by intro j hj; revert j; decide +kernel)
              have d0 := ev_of d0
              clear hd
              have hbd := (Below.refl w'.heap.size w').alloc (Nat.le_refl _) (.cells #[.int .i64 ti, .int .i64 i, .int .i64 (s + 1), .int .i64 m, .int .i64 z] 38)
              go_simp
              exact hK _ _ ⟨w'.heap.size, rfl, heap_alloc_new _ _⟩ ⟨hS.1.on hbd, hS.2.on hbd⟩ (fun j u _ _ _ _ h => phiT_below j u _ _ h hbd)
            | 6, _, ho, hK =>
              simp only [List.getElem?_toArray, List.getElem?_cons_zero, List.getElem?_cons_succ, Option.some.injEq] at ho
              subst ho
              simp only [] at hd hK
              have hown5 : w'.ownsRow (wd.heap.size + 1) 38 5 (aa.eval (.tmp 132)) P.length (cellsP P) := hd ⟨3, .data⟩ (by simp) rfl (by intro j hj; revert j; decide +kernel)
              obtain ⟨b7', d1, hh7⟩ : ∃ b, aa.eval (.tmp 134) = .slice (some ⟨b, 0, none⟩) 1 1 ∧ w'.heap[b]? = some (.cells #[.int .i64 ti, .int .i64 i, .int .i64 (s + 1), .int .i64 m, .int .i64 z] 38 (0, 0)) := hd ⟨5, .data⟩ (by simp) rfl (by intro j hj; revert j; decide +kernel)
              have hsz1 := hS.1.2.1
              have hsz := hS.2.2.1
              simp only [List.length_append, List.length_cons, List.length_nil] at hsz hsz1
              clear hd
              obtain ⟨i0, hi0, hz0, hz1, hz2⟩ := info_parts info32
              refine wp_append_row _ _ 23 rfl (wd.heap.size + 1) 38 i0 _ 5 40 Try.underlying23 hi0 hz0 hz1 hz2 rfl (by decide) _ P.length (cellsP P) rfl hown5 (some ⟨b7', 0, none⟩) 1 1 (cellsP [(⟨ti, i, s + 1, m, z⟩ : TP)]) d1 (cellsP_len _) (fun ad e => by cases e; exact cells_blockT hh7) (oneP _) (fun e => by cases e) (by unfold maxLen; omega) (by omega) (by omega) ?_
              intro v' w'' hown hgr
              refine hK _ _ (by rw [← cellsP_app] at hown; exact hown) ⟨hS.1.keep ((Below.refl _ _).grown hgr (by simp; omega) (fun k hk => by have := (ownsRow_block hown5 k hk).1; simp; omega)), hS.2.keep ((Below.refl _ _).grown hgr (by simp; omega) (fun k hk => by have := (ownsRow_block hown5 k hk).1; simp; omega))⟩ (fun j u hj hjk hsp hre h => ?_)
              exact phiT_far j u _ _ _ h hgr (fun e => by subst e; cases hsp) (fun e => by subst e; cases hsp) hjk (fun e => by subst e; cases hsp)
            | 7, _, ho, hK =>
              simp only [List.getElem?_toArray, List.getElem?_cons_zero, List.getElem?_cons_succ, Option.some.injEq] at ho
              subst ho
              simp only [] at hd hK
              clear hd
              go_simp
              exact hK _ _ rfl hS (fun _ _ _ _ _ _ h => h)
            | kk + 8, hk, _, _ => exact absurd hk (by omega)
          · intro vals wf hS hφ
            have h6 : wf.ownsRow (wd.heap.size + 1) 38 5 (vals 6) (P.length + 1) (cellsP (P ++ [(⟨ti, i, s + 1, m, z⟩ : TP)])) := hφ 6 (by decide) (by decide)
            have h7 : vals 7 = .pointer (some ⟨w.heap.size, 3, none⟩) := hφ 7 (by decide) (by decide)
            obtain ⟨g, c, e6, hg⟩ := own_formT h6 (by omega)
            rw [e6] at h6
            have HO := hide h6
            have HS1 := hide hS.1
            have r3 := hS.1.cell 0 3 w.heap.size _ _ _ rfl rfl rfl
            have s3 := hS.1.frozen 0 3 w.heap.size _ _ rfl rfl
            have pp : Hid (∀ j u, (#[.int .i64 ti, .int .i64 i, .int .i64 (s + 1), .int .i64 m, .int .i64 z] : Array Value)[j]? = some u → (wf.setCell ⟨w.heap.size, 3, none⟩ (.slice (some ⟨g, 0, none⟩) (P.length + 1) c)).cell? ⟨wc.heap.size, j, none⟩ = some u) := hide (fun j u hj => by
              rw [World.cell?_setCell_other _ _ _ _ (by simp; try omega)]
              exact hS.2.cell 0 j wc.heap.size _ _ _ rfl (by omega) hj)
            clear hφ hS h6 HK3 HPb
            simp only [putsD, Nat.zero_add, Nat.reduceAdd, e6, h7]
            clear e6 h7
            refine one_ready (i := 8) (by kernel_rfl) rfl rfl (fun K hK => ?_)
            go_simp
            have HOg : Hid ((wf.setCell ⟨w.heap.size, 3, none⟩ (.slice (some ⟨g, 0, none⟩) (P.length + 1) c)).ownsRow (wd.heap.size + 1) 38 5 (.slice (some ⟨g, 0, none⟩) (P.length + 1) c) (P.length + 1) (cellsP (P ++ [(⟨ti, i, s + 1, m, z⟩ : TP)]))) := hide (ownsRow_setT HO.out _ (by simp; try omega) _)
            have HK4 : Hid (Blks w (wf.setCell ⟨w.heap.size, 3, none⟩ (.slice (some ⟨g, 0, none⟩) (P.length + 1) c)) ([] ++ [.cells #[.int .i64 i, .int .i64 z, .int .i64 (s + 1), .slice (some ⟨g, 0, none⟩) (P.length + 1) c, .int .i64 v, .slice od D.length cd, .int .i64 (l - 1), .int .i64 u] 61] ++ [.cells #[.int .i64 ti, .int .i64 k, .int .i64 f, .int .i64 t, .int .i64 y, .int .i64 r] 28] ++ [.cells #[.int .i64 0, .int .i64 0, .int .i64 0, .slice none 0 0, .int .i64 0, .slice none 0 0, .int .i64 0, .int .i64 0] 61] ++ [.cells #[.int .i64 0, .int .i64 0, .int .i64 0, .int .i64 0, .int .i64 0] 38])) := hide (HS1.out.put 0 3 w.heap.size _ _ (.slice (some ⟨g, 0, none⟩) (P.length + 1) c) rfl rfl)
            refine hK _ _ ?_
            clear hK K HO HS1 r3 s3
            generalize wf.setCell ⟨w.heap.size, 3, none⟩ (.slice (some ⟨g, 0, none⟩) (P.length + 1) c) = wg at *
            refine wpAny_done (by kernel_rfl) ?_ _
            have x0 := HK4.out.cell 0 0 w.heap.size _ _ _ rfl rfl rfl
            have x1 := HK4.out.cell 0 1 w.heap.size _ _ _ rfl rfl rfl
            have x2 := HK4.out.cell 0 2 w.heap.size _ _ _ rfl rfl rfl
            have x3 := HK4.out.cell 0 3 w.heap.size _ _ _ rfl rfl rfl
            have x4 := HK4.out.cell 0 4 w.heap.size _ _ _ rfl rfl rfl
            have x5 := HK4.out.cell 0 5 w.heap.size _ _ _ rfl rfl rfl
            have x6 := HK4.out.cell 0 6 w.heap.size _ _ _ rfl rfl rfl
            have x7 := HK4.out.cell 0 7 w.heap.size _ _ _ rfl rfl rfl
            have r0 := HK4.out.cell 2 0 (w.heap.size + 1 + 1) _ _ _ rfl rfl rfl
            have r1 := HK4.out.cell 2 1 (w.heap.size + 1 + 1) _ _ _ rfl rfl rfl
            have r2 := HK4.out.cell 2 2 (w.heap.size + 1 + 1) _ _ _ rfl rfl rfl
            have r3 := HK4.out.cell 2 3 (w.heap.size + 1 + 1) _ _ _ rfl rfl rfl
            have r4 := HK4.out.cell 2 4 (w.heap.size + 1 + 1) _ _ _ rfl rfl rfl
            have r5 := HK4.out.cell 2 5 (w.heap.size + 1 + 1) _ _ _ rfl rfl rfl
            have r6 := HK4.out.cell 2 6 (w.heap.size + 1 + 1) _ _ _ rfl rfl rfl
            have r7 := HK4.out.cell 2 7 (w.heap.size + 1 + 1) _ _ _ rfl rfl rfl
            have q0 := HK4.out.frozen 2 0 (w.heap.size + 1 + 1) _ _ rfl rfl
            have q1 := HK4.out.frozen 2 1 (w.heap.size + 1 + 1) _ _ rfl rfl
            have q2 := HK4.out.frozen 2 2 (w.heap.size + 1 + 1) _ _ rfl rfl
            have q3 := HK4.out.frozen 2 3 (w.heap.size + 1 + 1) _ _ rfl rfl
            have q4 := HK4.out.frozen 2 4 (w.heap.size + 1 + 1) _ _ rfl rfl
            have q5 := HK4.out.frozen 2 5 (w.heap.size + 1 + 1) _ _ rfl rfl
            have q6 := HK4.out.frozen 2 6 (w.heap.size + 1 + 1) _ _ rfl rfl
            have q7 := HK4.out.frozen 2 7 (w.heap.size + 1 + 1) _ _ rfl rfl
            have p0 := HK4.out.cell 3 0 (w.heap.size + 1 + 1 + 1) _ _ _ rfl rfl rfl
            have p1 := HK4.out.cell 3 1 (w.heap.size + 1 + 1 + 1) _ _ _ rfl rfl rfl
            have p2 := HK4.out.cell 3 2 (w.heap.size + 1 + 1 + 1) _ _ _ rfl rfl rfl
            have p3 := HK4.out.cell 3 3 (w.heap.size + 1 + 1 + 1) _ _ _ rfl rfl rfl
            have p4 := HK4.out.cell 3 4 (w.heap.size + 1 + 1 + 1) _ _ _ rfl rfl rfl
            have o0 := HK4.out.frozen 3 0 (w.heap.size + 1 + 1 + 1) _ _ rfl rfl
            have o1 := HK4.out.frozen 3 1 (w.heap.size + 1 + 1 + 1) _ _ rfl rfl
            have o2 := HK4.out.frozen 3 2 (w.heap.size + 1 + 1 + 1) _ _ rfl rfl
            have o3 := HK4.out.frozen 3 3 (w.heap.size + 1 + 1 + 1) _ _ rfl rfl
            have o4 := HK4.out.frozen 3 4 (w.heap.size + 1 + 1 + 1) _ _ rfl rfl
            have m0 := pp.out 0 _ rfl
            have m1 := pp.out 1 _ rfl
            have m2 := pp.out 2 _ rfl
            have m3 := pp.out 3 _ rfl
            have m4 := pp.out 4 _ rfl
            have hne1 : w.heap.size + 1 + 1 ≠ wc.heap.size := by omega
            have hne2 : w.heap.size + 1 + 1 + 1 ≠ wc.heap.size := by omega
            have HFin := hide (And.intro (ownsRow_setT (ownsRow_setT (ownsRow_setT (ownsRow_setT (ownsRow_setT (ownsRow_setT (ownsRow_setT (ownsRow_setT (ownsRow_setT (ownsRow_setT (ownsRow_setT (ownsRow_setT (ownsRow_setT HOg.out ⟨w.heap.size + 1 + 1, 0, none⟩ (by simp; try omega) (.int .i64 i)) ⟨w.heap.size + 1 + 1, 1, none⟩ (by simp; try omega) (.int .i64 z)) ⟨w.heap.size + 1 + 1, 2, none⟩ (by simp; try omega) (.int .i64 (s + 1))) ⟨w.heap.size + 1 + 1, 3, none⟩ (by simp; try omega) (.slice (some ⟨g, 0, none⟩) (P.length + 1) c)) ⟨w.heap.size + 1 + 1, 4, none⟩ (by simp; try omega) (.int .i64 v)) ⟨w.heap.size + 1 + 1, 5, none⟩ (by simp; try omega) (.slice od D.length cd)) ⟨w.heap.size + 1 + 1, 6, none⟩ (by simp; try omega) (.int .i64 (l - 1))) ⟨w.heap.size + 1 + 1, 7, none⟩ (by simp; try omega) (.int .i64 u)) ⟨w.heap.size + 1 + 1 + 1, 0, none⟩ (by simp; try omega) (.int .i64 ti)) ⟨w.heap.size + 1 + 1 + 1, 1, none⟩ (by simp; try omega) (.int .i64 i)) ⟨w.heap.size + 1 + 1 + 1, 2, none⟩ (by simp; try omega) (.int .i64 (s + 1))) ⟨w.heap.size + 1 + 1 + 1, 3, none⟩ (by simp; try omega) (.int .i64 m)) ⟨w.heap.size + 1 + 1 + 1, 4, none⟩ (by simp; try omega) (.int .i64 z)) (((((((((((((HK4.out.2.2.setCell (p := ⟨w.heap.size + 1 + 1, 0, none⟩) (by simp; try omega) (.int .i64 i)).setCell (p := ⟨w.heap.size + 1 + 1, 1, none⟩) (by simp; try omega) (.int .i64 z)).setCell (p := ⟨w.heap.size + 1 + 1, 2, none⟩) (by simp; try omega) (.int .i64 (s + 1))).setCell (p := ⟨w.heap.size + 1 + 1, 3, none⟩) (by simp; try omega) (.slice (some ⟨g, 0, none⟩) (P.length + 1) c)).setCell (p := ⟨w.heap.size + 1 + 1, 4, none⟩) (by simp; try omega) (.int .i64 v)).setCell (p := ⟨w.heap.size + 1 + 1, 5, none⟩) (by simp; try omega) (.slice od D.length cd)).setCell (p := ⟨w.heap.size + 1 + 1, 6, none⟩) (by simp; try omega) (.int .i64 (l - 1))).setCell (p := ⟨w.heap.size + 1 + 1, 7, none⟩) (by simp; try omega) (.int .i64 u)).setCell (p := ⟨w.heap.size + 1 + 1 + 1, 0, none⟩) (by simp; try omega) (.int .i64 ti)).setCell (p := ⟨w.heap.size + 1 + 1 + 1, 1, none⟩) (by simp; try omega) (.int .i64 i)).setCell (p := ⟨w.heap.size + 1 + 1 + 1, 2, none⟩) (by simp; try omega) (.int .i64 (s + 1))).setCell (p := ⟨w.heap.size + 1 + 1 + 1, 3, none⟩) (by simp; try omega) (.int .i64 m)).setCell (p := ⟨w.heap.size + 1 + 1 + 1, 4, none⟩) (by simp; try omega) (.int .i64 z)))
            go_wp2_with fail
            go_region
            all_goals
              go_wp2_with fail
              refine bodyPost_ret (v := .tuple #[gtV i z (s + 1) (some ⟨g, 0, none⟩) (P.length + 1) c v od D.length cd (l - 1) u, tp ti i (s + 1) m z, .int .i64 0]) (by simp [results, Try.results31, go_sem, *]) rfl ⟨⟨some ⟨g, 0, none⟩, c, rfl, ?_, ?_⟩, ?_⟩
              · exact (tapsV_own HFin.out.1).below (Below.refl _ _).drew
              · intro n hn
                simp [Value.ownBlock] at hn
                omega
              · exact HFin.out.2.drew
        · have hE' : (E != 0) = true := by simpa using hE
          have HEn := hide hE
          clear hE
          go_wp2_with fail
          refine bodyPost_ret (v := .tuple #[gtV 0 0 0 none 0 0 0 none 0 0 0 0, tp 0 0 0 0 0, .int .i64 E]) (by simp [results, Try.results31, go_sem, *]) rfl ⟨Or.inl ⟨HEn.out, rfl⟩, ?_⟩
          repeat (first | with_reducible refine Below.setCell ?_ (by simp; try omega) _ | exact HK1.out.2.2)

end Go.Proofs.Ytcakfmpckbmdeac
