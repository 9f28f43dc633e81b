/-
  Views: 'promised', 'Win', 'Set' (package lead).
-/
import Derived.Test.YtcakfmpckbmdeaeV5
import Derived.Test.YtcakfmpckbmdeaeH4
import Derived.Laws.OwnMore
namespace Go.Proofs.Ytcakfmpckbmdeae
open Go.RowKit

theorem cellsW_cons (p : VW) (L : List VW) : cellsW (p :: L) = .int .i64 p.e :: .int .i64 p.l :: .bool p.u :: cellsW L := rfl

theorem cellsW_set (L : List VW) (q : Nat) (x : VW) : (((cellsW L).set (q * 3) (.int .i64 x.e)).set (q * 3 + 1) (.int .i64 x.l)).set (q * 3 + 2) (.bool x.u) = cellsW (L.set q x) := by
  induction L generalizing q with
  | nil => simp [cellsW]
  | cons p L ih =>
    cases q with
    | zero => simp [cellsW_cons]
    | succ q =>
      rw [show (q + 1) * 3 = q * 3 + 1 + 1 + 1 by omega, show q * 3 + 1 + 1 + 1 + 1 = (q * 3 + 1) + 1 + 1 + 1 by omega, show q * 3 + 1 + 1 + 1 + 2 = (q * 3 + 2) + 1 + 1 + 1 by omega]
      simp only [cellsW_cons, List.set_cons_succ]
      rw [ih q]

theorem cellsW_up (L : List VW) (q : Nat) (u : Bool) (hq : q < L.length) : (cellsW L).set (q * 3 + 2) (.bool u) = cellsW (L.modify q fun v => ⟨v.e, v.l, u⟩) := by
  induction L generalizing q with
  | nil => simp at hq
  | cons p L ih =>
    cases q with
    | zero => simp [cellsW_cons]
    | succ q =>
      rw [show (q + 1) * 3 + 2 = (q * 3 + 2) + 1 + 1 + 1 by omega]
      simp only [cellsW_cons, List.set_cons_succ, List.modify_succ_cons]
      rw [ih q (by simpa using hq)]

set_option maxHeartbeats 1600000 in
set_option maxRecDepth 100000 in
theorem cloneO_any (L : List VW) (A : Addr) (cap : Nat) (w : World) (hL : VwsAt w (some A) L) (hlen : L.length ≤ 60) (h0 : 0 < L.length) :
    Calls Try.prog 69 #[.slice (some A) L.length cap] w fun e w' => (∃ g c, e = .returned (.slice (some ⟨g, 0, none⟩) L.length c) ∧ w.heap.size ≤ g ∧ w'.ownsRow w.heap.size 106 3 (.slice (some ⟨g, 0, none⟩) L.length c) L.length (cellsW L)) ∧ Below w.heap.size w w' := by
  obtain ⟨i0, hi, hz0, hz1, hz2⟩ := info_parts infoVw
  have q : ∀ (w : World) (a : Option Addr) (n c n' c' : Nat), (binOp .eql 56 (.slice a n c) (.slice none n' c')).run Try.prog w = .ok (.bool a.isNone) w := fun w a n c n' c' => Lib.run_eql_slice_nil w _ _ a n c n' c' Try.underlying56
  have HN := hide (vws_cells (hL.below ((Below.refl w.heap.size w).alloc (Nat.le_refl _) (.cells #[] 106))))
  have HO := hide (World.ownsRow_made (base := w.heap.size) (e := 106) (size := 3) w #[] 0 (Nat.le_refl _) (by decide) rfl)
  clear hL
  go_enter Try.func69, Try.ntmps69
  go_wp2_with (at_builtin; refine wpList_append_own _ rfl _ _ 56 rfl w.heap.size 106 i0 _ 3 24 Try.underlying56 hi hz0 hz1 hz2 rfl (by decide) _ 0 _ rfl HO.out A L.length cap (cellsW L) rfl (cellsW_len L) HN.out (oneW L) (by unfold maxLen; omega) (by omega) (by simp) ?_; intro v1 w1 hown1 hgrow1 _)
  go_ret
  refine ⟨?_, ((Below.refl w.heap.size w).alloc (Nat.le_refl _) _).grown hgrow1 (by simp) (fun k hk => (HO.out.lt k hk).1)⟩
  have hn : 0 + L.length = L.length := by omega
  rw [hn] at hown1
  rcases hown1.2 with ⟨-, h⟩ | ⟨g, c, cur, rfl, hg, -⟩
  · omega
  · exact ⟨g, c, rfl, hg, hown1⟩

theorem Below.own {w w' : World} {g : Nat} (h : w.grownBy w' (some g)) {B : Nat} {w0 : World} (hb : Below B w0 w) (hB : B ≤ w.heap.size) (hg : B ≤ g) : Below B w0 w' :=
  hb.grown h hB (fun k hk => by cases hk; exact hg)

theorem promW_len (L : List VW) (e who : Int) : (promW L e who).length = L.length := by simp [promW]

theorem prom_step {L : List VW} {q : Nat} {p : VW} (e who : Int) (h : L[q]? = some p) :
    promW (L.take (q + 1)) e who ++ L.drop (q + 1) = (promW (L.take q) e who ++ L.drop q).set q (if p.u = true then ⟨e, who, true⟩ else p) := by
  have hq := (List.getElem?_eq_some_iff.1 h).1
  rw [List.take_add_one, h, Option.toList_some, dropW h]
  simp only [promW, List.map_append, List.map_cons, List.map_nil, List.append_assoc, List.cons_append, List.nil_append]
  rw [List.set_append_right _ _ (by simp; omega)]
  have : q - ((L.take q).map fun v => if v.u = true then (⟨e, who, true⟩ : VW) else v).length = 0 := by simp; omega
  rw [this]
  rfl

theorem prom_at {L : List VW} {q : Nat} {p : VW} (e who : Int) (h : L[q]? = some p) : (promW (L.take q) e who ++ L.drop q)[q]? = some p := by
  have hq := (List.getElem?_eq_some_iff.1 h).1
  rw [List.getElem?_append_right (by simp [promW]; omega)]
  have : q - (promW (L.take q) e who).length = 0 := by simp [promW]; omega
  rw [this, dropW h]
  rfl

set_option maxHeartbeats 3200000 in
set_option maxRecDepth 100000 in
theorem promised_any (L : List VW) (A : Addr) (cap : Nat) (e who : Int) (w : World) (hL : VwsAt w (some A) L) (hlen : L.length ≤ 60) (h0 : 0 < L.length) :
    Calls Try.prog 75 #[.slice (some A) L.length cap, .int .i64 e, .int .i64 who] w fun x w' => (∃ v, x = .returned v ∧ VwsV w' v (promW L e who) ∧ Fresh w.heap.size v) ∧ Below w.heap.size w w' := by
  have HC := hide (cloneO_any L A cap w hL hlen h0)
  obtain ⟨R, hR⟩ : ∃ R, R = promW L e who := ⟨_, rfl⟩
  rw [← hR]
  have HR := hide hR
  clear hL hR
  go_enter Try.func75, Try.ntmps75
  go_wp2_with fail
  refine HC.out.mono ?_
  rintro x w1 ⟨⟨g, c, rfl, hg, hown⟩, hb⟩
  have HO := hide hown
  have HB := hide hb
  clear hown hb HC
  go_wp2_with fail
  go_loopw [14] (fun j wr => ∃ (q : Nat), q ≤ L.length ∧ j = .int .i64 q ∧ Hid (wr.ownsRow w.heap.size 106 3 (.slice (some ⟨g, 0, none⟩) L.length c) L.length (cellsW (promW (L.take q) e who ++ L.drop q))) ∧ Hid (Below w.heap.size w wr)) (fun j _ => L.length - (intOf j).toNat)
  case atStart => exact ⟨0, Nat.zero_le _, rfl, by simpa [promW] using HO, HB⟩
  case round =>
    obtain ⟨q, hq, rfl, hO, hB⟩ := hrel
    by_cases hgo : q < L.length
    · obtain ⟨p, hp⟩ : ∃ p, L[q]? = some p := ⟨L[q], by simp [hgo]⟩
      have HS := hide (prom_step e who hp)
      have HA := hide (cellsW_get _ _ _ (prom_at e who hp))
      generalize hM : promW (L.take q) e who ++ L.drop q = M at *
      clear hM
      have hcell : ∀ j, j < 3 → wr.cell? ⟨g, q * 3 + j, none⟩ = [Value.int .i64 p.e, .int .i64 p.l, .bool p.u][j]? := fun j hj => by rw [hO.out.cellAt _ (by omega)]; exact HA.out j hj
      have c0 : wr.cell? ⟨g, q * 3, none⟩ = some (.int .i64 p.e) := hcell 0 (by decide)
      have c1 : wr.cell? ⟨g, q * 3 + 1, none⟩ = some (.int .i64 p.l) := hcell 1 (by decide)
      have c2 : wr.cell? ⟨g, q * 3 + 2, none⟩ = some (.bool p.u) := hcell 2 (by decide)
      clear hcell hp
      have hgl := World.block_lt_of_cell? wr _ c0
      go_upto_region 5 with fail
      have hba := (Below.refl wr.heap.size wr).alloc (Nat.le_refl _) (.cells #[.int .i64 p.e, .int .i64 p.l, .bool p.u] 106)
      have HOa := hide (ownsRow_below hO.out hba)
      have HBa := hide (hB.out.trans (hba.mono hB.out.size))
      have k0 := (cell_of_row (wr.alloc (.cells #[.int .i64 p.e, .int .i64 p.l, .bool p.u] 106)) wr.heap.size 2 _ _ _ (heap_alloc_new wr _))
      have hsz : (wr.alloc (.cells #[.int .i64 p.e, .int .i64 p.l, .bool p.u] 106)).heap.size = wr.heap.size + 1 := by simp
      clear hba c0 c1 c2 hO hB
      generalize wr.alloc _ = wa at *
      obtain ⟨pe, pl, pu⟩ := p
      simp only [] at *
      have k2 : wa.cell? ⟨wr.heap.size, 2, none⟩ = some (.bool pu) := k0
      clear k0
      have hga : g < wa.heap.size := by omega
      have z0 := HOa.out.frozenAt (q * 3)
      have z1 := HOa.out.frozenAt (q * 3 + 1)
      have z2 := HOa.out.frozenAt (q * 3 + 2)
      have hcell : ∀ j, j < 3 → wa.cell? ⟨g, q * 3 + j, none⟩ = [Value.int .i64 pe, .int .i64 pl, .bool pu][j]? := fun j hj => by rw [HOa.out.cellAt _ (by omega)]; exact HA.out j hj
      have c0 : wa.cell? ⟨g, q * 3, none⟩ = some (.int .i64 pe) := hcell 0 (by decide)
      have c1 : wa.cell? ⟨g, q * 3 + 1, none⟩ = some (.int .i64 pl) := hcell 1 (by decide)
      have c2 : wa.cell? ⟨g, q * 3 + 2, none⟩ = some (.bool pu) := hcell 2 (by decide)
      clear hcell
      cases pu
      · have HM : Hid (promW (L.take (q + 1)) e who ++ L.drop (q + 1) = M) := by
          show _ = _
          rw [HS.out, if_neg (by decide)]
          have hM1 : M[q]? = some ⟨pe, pl, false⟩ := by
            have hl : q < M.length := by have h1 := (HOa.out).1; rw [cellsW_len] at h1; omega
            obtain ⟨y, hy⟩ : ∃ y, M[q]? = some y := ⟨M[q], by simp [hl]⟩
            have e0 := (cellsW_get M q y hy 0 (by decide)).symm.trans (HA.out 0 (by decide))
            have e1 := (cellsW_get M q y hy 1 (by decide)).symm.trans (HA.out 1 (by decide))
            have e2 := (cellsW_get M q y hy 2 (by decide)).symm.trans (HA.out 2 (by decide))
            simp at e0 e1 e2
            obtain ⟨y0, y1, y2⟩ := y
            simp only [] at e0 e1 e2
            subst e0 e1 e2
            exact hy
          obtain ⟨hlt, hM2⟩ := List.getElem?_eq_some_iff.1 hM1
          rw [← hM2, List.set_getElem_self]
        rw [← HM.out] at HOa
        go_wp2_with fail
        exact ⟨⟨q + 1, by omega, by simp, HOa, HBa⟩, by simp [intOf]; omega⟩
      · have HP := hide (((HOa.out.stored (q * 3) (.int .i64 e)).1.stored (q * 3 + 1) (.int .i64 who)).1.stored (q * 3 + 2) (.bool true)).1
        rw [cellsW_set M q ⟨e, who, true⟩, ← show promW (L.take (q + 1)) e who ++ L.drop (q + 1) = M.set q ⟨e, who, true⟩ from HS.out] at HP
        have HBs := hide (((HBa.out.setCell (p := ⟨g, q * 3, none⟩) hg (.int .i64 e)).setCell (p := ⟨g, q * 3 + 1, none⟩) hg (.int .i64 who)).setCell (p := ⟨g, q * 3 + 2, none⟩) hg (.bool true))
        go_wp2_with fail
        exact ⟨⟨q + 1, by omega, by simp, HP, HBs⟩, by simp [intOf]; omega⟩
    · have hO' := hO.out
      rw [List.take_of_length_le (by omega), List.drop_of_length_le (by omega), List.append_nil, ← HR.out] at hO'
      have HO' := hide hO'
      clear hO' hO
      go_wp2_with fail
      go_ret
      exact ⟨⟨_, rfl, vwsV_own HO'.out, fun k hk => by cases hk; exact hg⟩, hB.out⟩

/-- what Win and Set give -/
def winR (L : List VW) (who : Int) : List VW := if winE L who = 0 then winL L who else []
def setR (L : List VW) (who : Int) (up : Bool) : List VW := if unfW L who 2 = 0 then setL L who up else []

theorem Fresh.monoW {B C : Nat} {v : Value} (h : Fresh B v) (hc : C ≤ B) : Fresh C v := fun k hk => Nat.le_trans hc (h k hk)

theorem vwsV_nil (w : World) : VwsV w (.slice none 0 0) [] := ⟨none, 0, rfl, fun i p h => by simp at h, by simp, fun _ => rfl⟩
theorem fresh_nil (B : Nat) : Fresh B (.slice none 0 0) := fun k hk => by simp [Value.ownBlock] at hk

theorem unfW_right {L : List VW} {who n : Int} (h : unfW L who n = 0) : chkVs L = 0 ∧ 0 ≤ who ∧ who ≤ n := by
  rw [unfW] at h
  by_cases h0 : chkVs L = 0
  · rw [if_pos h0] at h
    by_cases h1 : wi who 0 n = true
    · exact ⟨h0, (wi_iff _ _ _).1 h1⟩
    · rw [if_neg h1] at h
      omega
  · rw [if_neg h0] at h
    exact absurd h h0

theorem winE_ways (L : List VW) (who : Int) : (unfW L who 1 ≠ 0 ∧ winE L who = unfW L who 1 ∧ winB L who = false ∧ winR L who = []) ∨
    (unfW L who 1 = 0 ∧ upAt L who = false ∧ winE L who = 0 ∧ winB L who = false ∧ winR L who = L) ∨ (unfW L who 1 = 0 ∧ upAt L who = true ∧ mostW upG L = false ∧ winE L who = 0 ∧ winB L who = false ∧ winR L who = L) ∨
    (unfW L who 1 = 0 ∧ upAt L who = true ∧ mostW upG L = true ∧ (topW L).e = 99 ∧ winE L who = 2 ∧ winB L who = false ∧ winR L who = []) ∨
    (unfW L who 1 = 0 ∧ upAt L who = true ∧ mostW upG L = true ∧ (topW L).e ≠ 99 ∧ winE L who = 0 ∧ winB L who = true ∧ winR L who = promW L ((topW L).e + 1) who) := by
  rw [winB, winR, winL, winE, winsW]
  by_cases h0 : unfW L who 1 = 0
  · right
    rw [if_pos h0]
    cases upAt L who
    · left; simp [h0]
    · right
      cases mostW upG L
      · left; simp [h0]
      · right
        by_cases h1 : (topW L).e = 99
        · left; simp [h0, h1]
        · right; simp [h0, h1]
  · left
    rw [if_neg h0]
    simp [h0]

set_option maxHeartbeats 3200000 in
set_option maxRecDepth 100000 in
theorem win_any (o : Option Addr) (cap : Nat) (L : List VW) (who : Int) (w : World) (hL : VwsAt w o L) (hlen : L.length ≤ 9223372036854775807) :
    Calls Try.prog 28 #[.slice o L.length cap, .int .i64 who] w fun e w' => (∃ o' n c', e = .returned (.tuple #[.slice o' n c', .bool (winB L who), .int .i64 (winE L who)]) ∧ VwsV w' (.slice o' n c') (winR L who) ∧ Fresh w.heap.size (.slice o' n c')) ∧ Below w.heap.size w w' := by
  have HL := hide hL
  have HU := hide (fun W (h : VwsAt W o L) => unfW_any who 2 o cap L W h hlen (by omega))
  simp only [show (2 : Int) - 1 = 1 from rfl] at HU
  clear hL
  by_cases h0 : unfW L who 1 = 0
  · obtain ⟨hc, hw0, hw1⟩ := unfW_right h0
    have hl3 := right_len hc
    obtain ⟨k, rfl⟩ : ∃ k : Nat, who = (k : Int) := ⟨who.toNat, by omega⟩
    obtain ⟨pl, hpl⟩ : ∃ pl, L[k]? = some pl := ⟨L[k]'(by omega), by simp⟩
    have hup : upAt L k = pl.u := by simp [upAt, hpl]
    have HN := hide (fun W (h : VwsAt W o L) => newest_any o cap L W h (by omega) (by omega) (fun p hp => ⟨(right_range hc p hp).1, (right_range hc p hp).2.1⟩))
    have HM := hide (fun W (h : VwsAt W o L) => mostU_any o cap L W h (by omega))
    have HK := hide (fun W (h : VwsAt W o L) => cloneW_any L o cap W h (by omega))
    have HPr := hide (fun W A e (h : VwsAt W (some A) L) => promised_any L A cap e k W h (by omega) (by omega))
    obtain ⟨te, tk, tu, -, ht, ht0, ht1, -⟩ := top_facts hc
    have hp := winE_ways L k
    rw [ht] at hp HN
    rw [h0] at hp HU
    simp only [ne_eq, not_true_eq_false, false_and, false_or, true_and, hup] at hp
    have hkI : (k : Int) < (L.length : Int) := by omega
    have HP := hide hpl
    have hwr : IntKind.i64.wrap (te + 1) = te + 1 := by rw [IntKind.wrap_i64]; omega
    clear h0 hc hl3 hup ht hpl hw0 hw1
    generalize mostW upG L = M at *
    generalize winE L k = WE at *
    generalize winB L k = WB at *
    generalize winR L k = WR at *
    have HP2 := hide hp
    clear hp
    obtain ⟨pe, pll, pu⟩ := pl
    have hfd : ∀ w : World, (Instr.field 106 (vwV te tk tu) 0).run Try.prog w = .ok (.int .i64 te) w := fun _ => by rfl
    go_enter Try.func28, Try.ntmps28
    go_wp2_with fail
    refine (HU.out _ HL.out).mono ?_
    rintro e w1 ⟨rfl, hb1⟩
    have HL1 := hide (HL.out.below hb1)
    have HB1 := hide hb1
    clear hb1
    obtain ⟨A, rfl, y0, y1, y2⟩ := HL1.out k _ HP.out
    simp only [] at y0 y1 y2
    rcases HP2.out with ⟨h1, rfl, rfl, rfl⟩ | ⟨h1, rfl, rfl, rfl, rfl⟩ | ⟨h1, rfl, h2, rfl, rfl, rfl⟩ | ⟨h1, rfl, h2, rfl, rfl, h3⟩
    · subst h1
      go_wp2_with fail
      refine (HK.out _ HL1.out).mono ?_
      rintro e w2 ⟨⟨v, rfl, ⟨o', c', rfl, hv⟩, hf⟩, hb2⟩
      have HV := hide (And.intro (show VwsV w2 (.slice o' WR.length c') WR from ⟨o', c', rfl, hv⟩) hf)
      have HB2 := hide (HB1.out.trans (hb2.mono HB1.out.size))
      clear hv hf hb2
      go_wp2_with fail
      go_ret3
      exact ⟨⟨_, _, _, rfl, HV.out.1, HV.out.2.monoW HB1.out.size⟩, HB2.out⟩
    · subst h1
      go_wp2_with fail
      refine (HM.out _ HL1.out).mono ?_
      rintro e w2 ⟨rfl, hb2⟩
      have HL2 := hide (HL1.out.below hb2)
      have HB2 := hide (HB1.out.trans (hb2.mono HB1.out.size))
      clear hb2 y0 y1 y2
      go_wp2_with fail
      refine (HK.out _ HL2.out).mono ?_
      rintro e w3 ⟨⟨v, rfl, ⟨o', c', rfl, hv⟩, hf⟩, hb3⟩
      have HV := hide (And.intro (show VwsV w3 (.slice o' WR.length c') WR from ⟨o', c', rfl, hv⟩) hf)
      have HB3 := hide (HB2.out.trans (hb3.mono HB2.out.size))
      clear hv hf hb3
      go_wp2_with fail
      go_ret3
      exact ⟨⟨_, _, _, rfl, HV.out.1, HV.out.2.monoW HB2.out.size⟩, HB3.out⟩
    · subst h1
      go_wp2_with fail
      refine (HM.out _ HL1.out).mono ?_
      rintro e w2 ⟨rfl, hb2⟩
      have HL2 := hide (HL1.out.below hb2)
      have HB2 := hide (HB1.out.trans (hb2.mono HB1.out.size))
      clear hb2 y0 y1 y2
      go_wp2_with fail
      refine (HN.out _ HL2.out).mono ?_
      rintro e w3 ⟨rfl, hb3⟩
      have HB3 := hide (HB2.out.trans (hb3.mono HB2.out.size))
      clear hb3
      subst h2
      go_wp2_with fail
      go_ret3
      exact ⟨⟨_, _, _, rfl, vwsV_nil _, fresh_nil _⟩, HB3.out⟩
    · subst h1
      have h99 : decide (te + 1 > 99) = false := by simp; omega
      have H2 := hide h2
      clear h2
      go_wp2_with fail
      refine (HM.out _ HL1.out).mono ?_
      rintro e w2 ⟨rfl, hb2⟩
      have HL2 := hide (HL1.out.below hb2)
      have HB2 := hide (HB1.out.trans (hb2.mono HB1.out.size))
      clear hb2 y0 y1 y2
      go_wp2_with fail
      refine (HN.out _ HL2.out).mono ?_
      rintro e w3 ⟨rfl, hb3⟩
      have HL3 := hide (HL2.out.below hb3)
      have HB3 := hide (HB2.out.trans (hb3.mono HB2.out.size))
      clear hb3
      have h99' : te < 99 := by have := H2.out; omega
      go_wp2_with fail
      refine (HPr.out _ A (te + 1) HL3.out).mono ?_
      rintro e w4 ⟨⟨v, rfl, ⟨o', c', rfl, hv⟩, hf⟩, hb4⟩
      rw [← h3] at hv hf
      have HV := hide (And.intro (show VwsV w4 (.slice o' WR.length c') WR from ⟨o', c', rfl, hv⟩) hf)
      rw [← h3]
      have HB4 := hide (HB3.out.trans (hb4.mono HB3.out.size))
      clear hv hf hb4 h3
      go_wp2_with fail
      go_ret3
      exact ⟨⟨_, _, _, rfl, HV.out.1, HV.out.2.monoW HB3.out.size⟩, HB4.out⟩
  · have h0' : (unfW L who 1 != 0) = true := by simpa using h0
    rcases winE_ways L who with ⟨-, h1, h2, h3⟩ | ⟨h, -⟩ | ⟨h, -⟩ | ⟨h, -⟩ | ⟨h, -⟩
    · rw [h1, h2, h3]
      clear h0 h1 h2 h3
      generalize unfW L who 1 = E at *
      go_enter Try.func28, Try.ntmps28
      go_wp2_with fail
      refine (HU.out _ HL.out).mono ?_
      rintro e w1 ⟨rfl, hb⟩
      have HB := hide hb
      clear hb
      go_wp2_with fail
      go_ret3
      exact ⟨⟨_, _, _, rfl, vwsV_nil _, fresh_nil _⟩, HB.out⟩
    all_goals exact absurd h h0
end Go.Proofs.Ytcakfmpckbmdeae
