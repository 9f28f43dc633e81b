/-
  'unfit', 'early' (package ledger), with what looks for a tap of the same gate and Seq.
-/
import Derived.Test.YtcakfmpckbmdeacL1
import Derived.Test.YtcakfmpckbmdeacP4
namespace Go.Proofs.Ytcakfmpckbmdeac
open Go.RowKit

theorem unfit1_any (a g s m z : Int) (p : TP) (B : Nat) (w : World) (hc : Tap5 w ⟨B, 0, none⟩ p) :
    Calls Try.prog 86 #[tp a g s m z, .pointer (some ⟨B, 0, none⟩)] w fun e w' => e = .returned (.bool (g == p.g && s == p.s)) ∧ Below w.heap.size w w' := by
  have hlt := hc.lt
  obtain ⟨c0, c1, c2, c3, c4⟩ := hc
  simp only [Nat.zero_add] at c0 c1 c2 c3 c4 hlt
  cases h1 : (g == p.g)
  all_goals
    go_enter Try.func86, Try.ntmps86
    go_wp2_with fail
    go_ret
    exact ⟨rfl, (Below.refl _ _).alloc (Nat.le_refl _) _⟩

theorem indexU_any (p : TP) (B : Nat) (o : Option Addr) (cap : Nat) (L : List TP) (w : World) (hL : TapsAt w o L) (hlen : L.length ≤ 9223372036854775807) (hc : Tap5 w ⟨B, 0, none⟩ p) :
    Calls Try.prog 103 #[.slice o L.length cap, .func (.func 86) #[] #[.pointer (some ⟨B, 0, none⟩)]] w fun e w' =>
      (∃ n : Int, e = .returned (.int .i64 n) ∧ decide (0 ≤ n) = twiceT L p) ∧ Below w.heap.size w w' := by
  have HL := hide hL
  have HC := hide hc
  clear hL hc
  go_enter Try.func103, Try.ntmps103
  go_wp2_with fail
  go_loopw [8] (fun j wr => ∃ (q : Nat), q ≤ L.length ∧ j = .int .i64 q ∧ Hid (twiceT (L.take q) p = false) ∧ Below w.heap.size w wr) (fun j _ => L.length - (intOf j).toNat)
  case atStart => exact ⟨0, Nat.zero_le _, rfl, by show _ = _; simp [twiceT], Below.refl _ _⟩
  case round =>
    obtain ⟨q, hq, rfl, hF, hbr⟩ := hrel
    by_cases hgo : q < L.length
    · obtain ⟨x, hp⟩ : ∃ x, L[q]? = some x := ⟨L[q], by simp [hgo]⟩
      have HS : Hid (twiceT (L.take (q + 1)) p = (x.g == p.g && x.s == p.s)) := by
        show _ = _
        have h0 := hF.out
        unfold twiceT at h0 ⊢
        rw [List.take_add_one, hp, Option.toList_some, List.any_append, h0]
        simp
      obtain ⟨A, rfl, c0, c1, c2, c3, c4⟩ := (HL.out.below hbr) q x hp
      have HP := hide hp
      clear hp
      go_wp2_with fail
      refine (unfit1_any _ _ _ _ _ p B _ (HC.out.below hbr HC.out.lt)).mono ?_
      rintro e w3 ⟨rfl, hb3⟩
      have hbr3 := hbr.trans (hb3.mono hbr.size)
      clear hbr hb3
      cases hx : (x.g == p.g && x.s == p.s)
      · rw [hx] at HS
        go_wp2_with fail
        exact ⟨⟨q + 1, by omega, by simp, HS, hbr3⟩, by simp [intOf]; omega⟩
      · go_wp2_with fail
        go_ret
        refine ⟨⟨q, rfl, ?_⟩, hbr3⟩
        have hp := HP.out
        have : twiceT L p = true := by
          unfold twiceT
          rw [List.any_eq_true]
          exact ⟨x, List.mem_of_getElem? hp, hx⟩
        simp [this]
    · go_wp2_with fail
      go_ret
      refine ⟨⟨-1, rfl, ?_⟩, hbr⟩
      have h1 := hF.out
      rw [List.take_of_length_le (by omega)] at h1
      simp [h1]

theorem containsU_any (p : TP) (B : Nat) (o : Option Addr) (cap : Nat) (L : List TP) (w : World) (hL : TapsAt w o L) (hlen : L.length ≤ 9223372036854775807) (hc : Tap5 w ⟨B, 0, none⟩ p) :
    Calls Try.prog 87 #[.slice o L.length cap, .func (.func 86) #[] #[.pointer (some ⟨B, 0, none⟩)]] w fun e w' =>
      e = .returned (.bool (twiceT L p)) ∧ Below w.heap.size w w' := by
  have HI := hide (indexU_any p B o cap L w hL hlen hc)
  clear hL hc
  go_enter Try.func87, Try.ntmps87
  go_wp2_with fail
  refine HI.out.mono ?_
  rintro e w' ⟨⟨n, rfl, hn⟩, hb⟩
  have HN := hide hn
  clear hn
  go_wp2_with fail
  go_ret
  exact ⟨by rw [← HN.out]; rfl, hb⟩

abbrev cL (o1 o2 o3 : Option Addr) (n1 c1 n2 c2 n3 c3 : Nat) (T : TypeId) : Obj := .cells #[.slice o1 n1 c1, .slice o2 n2 c2, .slice o3 n3 c3] T

/-- a ledger that lies in memory -/
structure Led3 (w : World) (b : Nat) (o1 o2 o3 : Option Addr) (n1 c1 n2 c2 n3 c3 : Nat) : Prop where
  c0 : w.cell? ⟨b, 0, none⟩ = some (.slice o1 n1 c1)
  c1 : w.cell? ⟨b, 1, none⟩ = some (.slice o2 n2 c2)
  c2 : w.cell? ⟨b, 2, none⟩ = some (.slice o3 n3 c3)

theorem Led3.lt {w : World} {b : Nat} {o1 o2 o3 : Option Addr} {n1 c1 n2 c2 n3 c3 : Nat} (h : Led3 w b o1 o2 o3 n1 c1 n2 c2 n3 c3) : b < w.heap.size := World.block_lt_of_cell? w ⟨b, 0, none⟩ h.c0
theorem Led3.below {B : Nat} {w w' : World} {b : Nat} {o1 o2 o3 : Option Addr} {n1 c1 n2 c2 n3 c3 : Nat} (h : Led3 w b o1 o2 o3 n1 c1 n2 c2 n3 c3) (hb : Below B w w') (hlt : b < B) : Led3 w' b o1 o2 o3 n1 c1 n2 c2 n3 c3 :=
  ⟨by rw [hb.cell (p := ⟨b, 0, none⟩) hlt]; exact h.c0, by rw [hb.cell (p := ⟨b, 1, none⟩) hlt]; exact h.c1, by rw [hb.cell (p := ⟨b, 2, none⟩) hlt]; exact h.c2⟩

/-- the two boxes of a method of a book that takes a tap -/
def BoxesB (w w1 : World) (o1 o2 o3 : Option Addr) (n1 c1 n2 c2 n3 c3 : Nat) (p : TP) : Prop :=
  Led3 w1 w.heap.size o1 o2 o3 n1 c1 n2 c2 n3 c3 ∧ Tap5 w1 ⟨w.heap.size + 1, 0, none⟩ p ∧ w.heap.size + 1 < w1.heap.size ∧ Below w.heap.size w w1

theorem boxesB_of (o1 o2 o3 : Option Addr) (n1 c1 n2 c2 n3 c3 : Nat) (a g s m zone : Int) (T1 T2 : TypeId) (w w1 : World) (h : Below ((w.alloc (cL o1 o2 o3 n1 c1 n2 c2 n3 c3 T1)).alloc (cP a g s m zone T2)).heap.size ((w.alloc (cL o1 o2 o3 n1 c1 n2 c2 n3 c3 T1)).alloc (cP a g s m zone T2)) w1) :
    BoxesB w w1 o1 o2 o3 n1 c1 n2 c2 n3 c3 ⟨a, g, s, m, zone⟩ := by
  have s1 := h.size
  simp at s1
  refine ⟨Led3.below (w := (w.alloc (cL o1 o2 o3 n1 c1 n2 c2 n3 c3 T1)).alloc (cP a g s m zone T2)) ⟨?_, ?_, ?_⟩ h (by simp; omega), Tap5.below (w := (w.alloc (cL o1 o2 o3 n1 c1 n2 c2 n3 c3 T1)).alloc (cP a g s m zone T2)) ⟨?_, ?_, ?_, ?_, ?_⟩ h (by simp), by omega,
    Below.trans (((Below.refl _ _).alloc (Nat.le_refl _) _).alloc (by simp) _) (h.mono (by simp; omega))⟩
  all_goals simp [go_sem]

theorem BoxesB.on {w w1 w2 : World} {o1 o2 o3 : Option Addr} {n1 c1 n2 c2 n3 c3 : Nat} {p : TP} (h : BoxesB w w1 o1 o2 o3 n1 c1 n2 c2 n3 c3 p) (hb : Below w1.heap.size w1 w2) : BoxesB w w2 o1 o2 o3 n1 c1 n2 c2 n3 c3 p :=
  ⟨h.1.below hb h.1.lt, h.2.1.below hb h.2.1.lt, Nat.lt_of_lt_of_le h.2.2.1 hb.size, h.2.2.2.trans (hb.mono h.2.2.2.size)⟩

/-- why a tap can't be one that comes next -/
def unf (T : List TK) (P : List TP) (p : TP) : Int := firstE [chkT p, if hasT T p.a = true then 0 else 5, if twiceT P p = true then 6 else 0]

set_option maxHeartbeats 3200000 in
theorem unfit_any (T : List TK) (P : List TP) (o1 o2 o3 : Option Addr) (c1 c2 n3 c3 : Nat) (a g s m z : Int) (w : World) (hT : TiksAt w o1 T) (hP : TapsAt w o2 P) (hlen : T.length ≤ 12) (hlen2 : P.length ≤ 60) (hr : Rising T) :
    Calls Try.prog 46 #[lg o1 o2 o3 T.length c1 P.length c2 n3 c3, tp a g s m z] w fun e w' => e = .returned (.int .i64 (unf T P ⟨a, g, s, m, z⟩)) ∧ Below w.heap.size w w' := by
  have HT := hide hT
  have HP := hide hP
  have HC := hide (fun W => checkP_any a g s m z W)
  have HPl := hide (fun W (h : TiksAt W o1 T) => place_any T a o1 o2 o3 c1 P.length c2 n3 c3 W h hlen hr)
  have HX := hide (fun W B (h : TapsAt W o2 P) (hc : Tap5 W ⟨B, 0, none⟩ ⟨a, g, s, m, z⟩) => containsU_any ⟨a, g, s, m, z⟩ B o2 c2 P W h (by omega) hc)
  clear hT hP hr hlen hlen2
  generalize hU : unf T P ⟨a, g, s, m, z⟩ = U
  have hc : ((chkP a g s m z != 0) = true ∧ U = chkP a g s m z) ∨ (chkP a g s m z = 0 ∧ hasT T a = false ∧ U = 5) ∨ (chkP a g s m z = 0 ∧ hasT T a = true ∧ twiceT P ⟨a, g, s, m, z⟩ = true ∧ U = 6) ∨ (chkP a g s m z = 0 ∧ hasT T a = true ∧ twiceT P ⟨a, g, s, m, z⟩ = false ∧ U = 0) := by
    rw [← hU]
    unfold unf
    by_cases h1 : chkP a g s m z = 0
    · cases h2 : hasT T a
      · simp [firstE, chkT, h1]
      · cases h3 : twiceT P ⟨a, g, s, m, z⟩ <;> simp [firstE, chkT, h1]
    · simp [firstE, chkT, h1]
  clear hU
  generalize chkP a g s m z = X at *
  generalize hasT T a = Y at *
  generalize twiceT P ⟨a, g, s, m, z⟩ = Z at *
  rcases hc with ⟨h1, rfl⟩ | ⟨rfl, rfl, rfl⟩ | ⟨rfl, rfl, rfl, rfl⟩ | ⟨rfl, rfl, rfl, rfl⟩
  all_goals
    go_enter Try.func46, Try.ntmps46
    go_wp2_with fail
    refine (HC.out _).mono ?_
    rintro e w1 ⟨rfl, hb1⟩
    have HB1 := hide (boxesB_of _ _ _ _ _ _ _ _ _ _ _ _ _ _ _ _ _ _ hb1)
    clear hb1
    obtain ⟨⟨x0, x1, x2⟩, ⟨y0, y1, y2, y3, y4⟩, -, -⟩ := HB1.out
    simp only [Nat.zero_add] at x0 x1 x2 y0 y1 y2 y3 y4
    go_wp2_with fail
  · go_ret
    exact ⟨rfl, HB1.out.2.2.2⟩
  all_goals
    refine (HPl.out _ (HT.out.below HB1.out.2.2.2)).mono ?_
    rintro e w2 ⟨rfl, hb2⟩
    have HB2 := hide (HB1.out.on hb2)
    clear hb2 HB1 x0 x1 x2 y0 y1 y2 y3 y4
    obtain ⟨⟨x0, x1, x2⟩, ⟨y0, y1, y2, y3, y4⟩, -, -⟩ := HB2.out
    simp only [Nat.zero_add] at x0 x1 x2 y0 y1 y2 y3 y4
    go_wp2_with fail
  · go_ret
    exact ⟨rfl, HB2.out.2.2.2⟩
  all_goals
    refine (HX.out _ _ (HP.out.below HB2.out.2.2.2) HB2.out.2.1).mono ?_
    rintro e w3 ⟨rfl, hb3⟩
    have HB3 := hide (HB2.out.on hb3)
    clear hb3 HB2 x0 x1 x2 y0 y1 y2 y3 y4
    go_wp2_with fail
    go_ret
    exact ⟨rfl, HB3.out.2.2.2⟩

/-- less in time than the last one -/
def earlyB (P : List TP) (m : Int) : Bool := match P.getLast? with
  | none => false
  | some p => decide (m < p.m)

set_option maxHeartbeats 3200000 in
theorem early_any (P : List TP) (o1 o2 o3 : Option Addr) (n1 c1 c2 n3 c3 : Nat) (a g s m z : Int) (w : World) (hP : TapsAt w o2 P) (hlen : P.length ≤ 60) :
    Calls Try.prog 47 #[lg o1 o2 o3 n1 c1 P.length c2 n3 c3, tp a g s m z] w fun e w' => e = .returned (.bool (earlyB P m)) ∧ Below w.heap.size w w' := by
  rcases hn : P.length with _ | n
  · have hL0 : P = [] := List.eq_nil_of_length_eq_zero hn
    subst hL0
    clear hP
    go_enter Try.func47, Try.ntmps47
    go_wp2
    go_region
    go_wp2
    go_ret
    exact ⟨by simp [earlyB], (((Below.refl _ _).alloc (Nat.le_refl _) _).alloc (by simp) _).drew⟩
  · obtain ⟨p, hp⟩ : ∃ p, P[n]? = some p := ⟨P[n]'(by omega), by simp [hn]⟩
    have HE : Hid (earlyB P m = decide (m < p.m)) := by
      show _ = _
      rw [earlyB, List.getLast?_eq_getElem?, hn, Nat.add_sub_cancel, hp]
    obtain ⟨A, rfl, h5⟩ := hP n p hp
    have hnb : n < 60 := by omega
    obtain ⟨d0, d1, d2, d3, d4⟩ := h5.below (((Below.refl w.heap.size w).alloc (Nat.le_refl _) (cL o1 (some A) o3 n1 c1 (n + 1) c2 n3 c3 76)).alloc (by simp) (cP a g s m z 38)) h5.lt
    clear h5 hP hp hn hlen
    go_enter Try.func47, Try.ntmps47
    go_wp2
    go_region
    go_wp2
    go_ret
    exact ⟨by rw [HE.out]; rfl, (((Below.refl _ _).alloc (Nat.le_refl _) _).alloc (by simp) _).drew⟩

end Go.Proofs.Ytcakfmpckbmdeac
