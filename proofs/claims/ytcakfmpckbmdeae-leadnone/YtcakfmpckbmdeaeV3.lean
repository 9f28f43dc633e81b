/-
  Views: 'checkView', 'split', 'Check', 'unfit' (package lead).
-/
import Derived.Test.YtcakfmpckbmdeaeV2
namespace Go.Proofs.Ytcakfmpckbmdeae
open Go.RowKit

theorem chkW_ways (p : VW) : (wi p.e 0 99 = false ∧ chkW p = 3) ∨ (wi p.e 0 99 = true ∧ wi p.l 0 1 = false ∧ chkW p = 3) ∨ (wi p.e 0 99 = true ∧ wi p.l 0 1 = true ∧ (p.e == 0) = true ∧ (p.l != 0) = true ∧ chkW p = 4) ∨
    (wi p.e 0 99 = true ∧ wi p.l 0 1 = true ∧ (p.e == 0) = true ∧ (p.l != 0) = false ∧ chkW p = 0) ∨ (wi p.e 0 99 = true ∧ wi p.l 0 1 = true ∧ (p.e == 0) = false ∧ chkW p = 0) := by
  rw [chkW]
  cases wi p.e 0 99 <;> cases wi p.l 0 1 <;> by_cases h1 : p.e = 0 <;> by_cases h2 : p.l = 0 <;> simp [h1, h2]

set_option maxRecDepth 100000 in
theorem checkView_any (e l : Int) (u : Bool) (w : World) :
    Calls Try.prog 97 #[vwV e l u] w fun x w' => x = .returned (.int .i64 (chkW ⟨e, l, u⟩)) ∧ Below w.heap.size w w' := by
  rcases chkW_ways ⟨e, l, u⟩ with ⟨h1, h4⟩ | ⟨h1, h2, h4⟩ | ⟨h1, h2, h3, h5, h4⟩ | ⟨h1, h2, h3, h5, h4⟩ | ⟨h1, h2, h3, h4⟩
  all_goals
    rw [h4]
    clear h4
    simp only [] at *
    go_enter Try.func97, Try.ntmps97
    go_wp2_with (go_at_call 53; refine (within_any _ _ _ _).mono ?_; rintro e w' ⟨rfl, rfl⟩)
    go_ret
    exact ⟨rfl, (Below.refl _ _).alloc (Nat.le_refl _) _⟩

set_option maxRecDepth 100000 in
theorem split11_any (v : VW) (B : Nat) (e l : Int) (u : Bool) (w : World) (hc0 : w.cell? ⟨B, 0, none⟩ = some (.int .i64 v.e)) (hc1 : w.cell? ⟨B, 1, none⟩ = some (.int .i64 v.l)) :
    Calls Try.prog 122 #[vwV e l u, .pointer (some ⟨B, 0, none⟩)] w fun x w' => x = .returned (.bool (twoW v ⟨e, l, u⟩)) ∧ Below w.heap.size w w' := by
  have hlt := World.block_lt_of_cell? w ⟨B, 0, none⟩ hc0
  obtain ⟨ve, vl, vu⟩ := v
  simp only [twoW]
  simp only [] at hc0 hc1
  cases h : (ve == e)
  all_goals
    go_enter Try.func122, Try.ntmps122
    go_wp2_with fail
    go_ret
    exact ⟨by simp, (Below.refl _ _).alloc (Nat.le_refl _) _⟩

set_option maxHeartbeats 1600000 in
set_option maxRecDepth 100000 in
theorem indexSI_any (v : VW) (B : Nat) (o : Option Addr) (cap : Nat) (L : List VW) (w : World) (hL : VwsAt w o L) (hlen : L.length ≤ 9223372036854775807) (hc0 : w.cell? ⟨B, 0, none⟩ = some (.int .i64 v.e)) (hc1 : w.cell? ⟨B, 1, none⟩ = some (.int .i64 v.l)) :
    Calls Try.prog 129 #[.slice o L.length cap, .func (.func 122) #[] #[.pointer (some ⟨B, 0, none⟩)]] w fun e w' =>
      (∃ n : Int, e = .returned (.int .i64 n) ∧ decide (0 ≤ n) = L.any (twoW v)) ∧ Below w.heap.size w w' := by
  have HL := hide hL
  have HI := hide (fun (p : VW) (W : World) => fun (hb : Below w.heap.size w W) (h : w.cell? ⟨B, 0, none⟩ = some (.int .i64 v.e) ∧ w.cell? ⟨B, 1, none⟩ = some (.int .i64 v.l)) => split11_any v B p.e p.l p.u W (by rw [hb.cell (p := ⟨B, 0, none⟩) (World.block_lt_of_cell? w ⟨B, 0, none⟩ h.1)]; exact h.1) (by rw [hb.cell (p := ⟨B, 1, none⟩) (World.block_lt_of_cell? w ⟨B, 0, none⟩ h.1)]; exact h.2))
  clear hL
  have HB0 := hide (⟨hc0, hc1⟩ : (w.cell? ⟨B, 0, none⟩ = some (.int .i64 v.e)) ∧ (w.cell? ⟨B, 1, none⟩ = some (.int .i64 v.l)))
  clear hc0 hc1
  generalize hg : (twoW v) = g at *
  clear hg
  go_enter Try.func129, Try.ntmps129
  go_wp2_with fail
  go_loopw [8] (fun j wr => ∃ (q : Nat), q ≤ L.length ∧ j = .int .i64 q ∧ Hid ((L.take q).any g = false) ∧ Below w.heap.size w wr) (fun j _ => L.length - (intOf j).toNat)
  case atStart => exact ⟨0, Nat.zero_le _, rfl, by show _ = _; simp, Below.refl _ _⟩
  case round =>
    obtain ⟨q, hq, rfl, hF, hbr⟩ := hrel
    by_cases hgo : q < L.length
    · obtain ⟨p, hp⟩ : ∃ p, L[q]? = some p := ⟨L[q], by simp [hgo]⟩
      have HS : Hid ((L.take (q + 1)).any g = g p) := by
        show _ = _
        rw [List.take_add_one, hp, Option.toList_some, List.any_append, hF.out]
        simp
      obtain ⟨A, rfl, c0, c1, c2⟩ := (HL.out.below hbr) q p hp
      have HP := hide hp
      have HC := hide (HI.out p wr hbr HB0.out)
      clear hp
      go_wp2_with fail
      refine HC.out.mono ?_
      rintro e w3 ⟨rfl, hb3⟩
      have hbr3 := hbr.trans (hb3.mono hbr.size)
      clear hbr hb3 HC
      cases hx : g p
      · rw [hx] at HS
        go_wp2_with fail
        exact ⟨⟨q + 1, by omega, by simp, HS, hbr3⟩, by simp [intOf]; omega⟩
      · go_wp2_with fail
        go_ret
        refine ⟨⟨q, rfl, ?_⟩, hbr3⟩
        have hp := HP.out
        have : L.any g = true := by
          rw [List.any_eq_true]
          exact ⟨p, List.mem_of_getElem? hp, hx⟩
        simp [this]
    · go_wp2_with fail
      go_ret
      refine ⟨⟨-1, rfl, ?_⟩, hbr⟩
      have h1 := hF.out
      rw [List.take_of_length_le (by omega)] at h1
      simp [h1]

set_option maxRecDepth 100000 in
theorem containsSI_any (v : VW) (B : Nat) (o : Option Addr) (cap : Nat) (L : List VW) (w : World) (hL : VwsAt w o L) (hlen : L.length ≤ 9223372036854775807) (hc0 : w.cell? ⟨B, 0, none⟩ = some (.int .i64 v.e)) (hc1 : w.cell? ⟨B, 1, none⟩ = some (.int .i64 v.l)) :
    Calls Try.prog 120 #[.slice o L.length cap, .func (.func 122) #[] #[.pointer (some ⟨B, 0, none⟩)]] w fun e w' =>
      e = .returned (.bool (L.any (twoW v))) ∧ Below w.heap.size w w' := by
  have HI := hide (indexSI_any v B o cap L w hL hlen hc0 hc1)
  clear hL hc0 hc1
  generalize (twoW v) = g at *
  go_enter Try.func120, Try.ntmps120
  go_wp2_with fail
  refine HI.out.mono ?_
  rintro e w' ⟨⟨n, rfl, hn⟩, hb⟩
  have HN := hide hn
  clear hn
  go_wp2_with fail
  go_ret
  exact ⟨by rw [← HN.out]; rfl, hb⟩

/-- some of M is of its epoch, with another leader -/
def anyW (M : List VW) (v : VW) : Bool := M.any (twoW v)

set_option maxRecDepth 100000 in
theorem split1_any (B : Nat) (o : Option Addr) (cap : Nat) (L : List VW) (e l : Int) (u : Bool) (w : World) (hL : VwsAt w o L) (hlen : L.length ≤ 9223372036854775807) (hc : w.cell? ⟨B, 0, none⟩ = some (.slice o L.length cap)) :
    Calls Try.prog 121 #[vwV e l u, .pointer (some ⟨B, 0, none⟩)] w fun x w' => x = .returned (.bool (anyW L ⟨e, l, u⟩)) ∧ Below w.heap.size w w' := by
  have hlt := World.block_lt_of_cell? w ⟨B, 0, none⟩ hc
  have HB := hide ((Blks.nil w).more (.cells #[.int .i64 e, .int .i64 l, .bool u] 106) (by simp))
  have HC := hide (containsSI_any ⟨e, l, u⟩ w.heap.size o cap L _ (hL.below HB.out.2.2) hlen (HB.out.cell 0 0 _ _ _ _ rfl rfl rfl) (HB.out.cell 0 1 _ _ _ _ rfl rfl rfl))
  clear hL
  go_enter Try.func121, Try.ntmps121
  go_wp2_with fail
  refine HC.out.mono ?_
  rintro e w1 ⟨rfl, hb⟩
  have HB1 := hide (HB.out.on hb)
  clear hb HB
  go_wp2_with fail
  go_ret
  exact ⟨rfl, HB1.out.2.2⟩

set_option maxHeartbeats 1600000 in
set_option maxRecDepth 100000 in
theorem indexSO_any (B : Nat) (o1 : Option Addr) (cap1 : Nat) (M : List VW) (o : Option Addr) (cap : Nat) (L : List VW) (w : World) (hL : VwsAt w o L) (hlen : L.length ≤ 9223372036854775807) (hM : VwsAt w o1 M) (hlM : M.length ≤ 9223372036854775807) (hc : w.cell? ⟨B, 0, none⟩ = some (.slice o1 M.length cap1)) :
    Calls Try.prog 129 #[.slice o L.length cap, .func (.func 121) #[] #[.pointer (some ⟨B, 0, none⟩)]] w fun e w' =>
      (∃ n : Int, e = .returned (.int .i64 n) ∧ decide (0 ≤ n) = L.any (anyW M)) ∧ Below w.heap.size w w' := by
  have HL := hide hL
  have HI := hide (fun (p : VW) (W : World) => fun (hb : Below w.heap.size w W) (h : VwsAt w o1 M ∧ M.length ≤ 9223372036854775807 ∧ w.cell? ⟨B, 0, none⟩ = some (.slice o1 M.length cap1)) => split1_any B o1 cap1 M p.e p.l p.u W (h.1.below hb) h.2.1 (by rw [hb.cell (p := ⟨B, 0, none⟩) (World.block_lt_of_cell? w ⟨B, 0, none⟩ h.2.2)]; exact h.2.2))
  clear hL
  have HB0 := hide (⟨hM, hlM, hc⟩ : (VwsAt w o1 M) ∧ (M.length ≤ 9223372036854775807) ∧ (w.cell? ⟨B, 0, none⟩ = some (.slice o1 M.length cap1)))
  clear hM hlM hc
  generalize hg : (anyW M) = g at *
  clear hg
  go_enter Try.func129, Try.ntmps129
  go_wp2_with fail
  go_loopw [8] (fun j wr => ∃ (q : Nat), q ≤ L.length ∧ j = .int .i64 q ∧ Hid ((L.take q).any g = false) ∧ Below w.heap.size w wr) (fun j _ => L.length - (intOf j).toNat)
  case atStart => exact ⟨0, Nat.zero_le _, rfl, by show _ = _; simp, Below.refl _ _⟩
  case round =>
    obtain ⟨q, hq, rfl, hF, hbr⟩ := hrel
    by_cases hgo : q < L.length
    · obtain ⟨p, hp⟩ : ∃ p, L[q]? = some p := ⟨L[q], by simp [hgo]⟩
      have HS : Hid ((L.take (q + 1)).any g = g p) := by
        show _ = _
        rw [List.take_add_one, hp, Option.toList_some, List.any_append, hF.out]
        simp
      obtain ⟨A, rfl, c0, c1, c2⟩ := (HL.out.below hbr) q p hp
      have HP := hide hp
      have HC := hide (HI.out p wr hbr HB0.out)
      clear hp
      go_wp2_with fail
      refine HC.out.mono ?_
      rintro e w3 ⟨rfl, hb3⟩
      have hbr3 := hbr.trans (hb3.mono hbr.size)
      clear hbr hb3 HC
      cases hx : g p
      · rw [hx] at HS
        go_wp2_with fail
        exact ⟨⟨q + 1, by omega, by simp, HS, hbr3⟩, by simp [intOf]; omega⟩
      · go_wp2_with fail
        go_ret
        refine ⟨⟨q, rfl, ?_⟩, hbr3⟩
        have hp := HP.out
        have : L.any g = true := by
          rw [List.any_eq_true]
          exact ⟨p, List.mem_of_getElem? hp, hx⟩
        simp [this]
    · go_wp2_with fail
      go_ret
      refine ⟨⟨-1, rfl, ?_⟩, hbr⟩
      have h1 := hF.out
      rw [List.take_of_length_le (by omega)] at h1
      simp [h1]

set_option maxRecDepth 100000 in
theorem containsSO_any (B : Nat) (o1 : Option Addr) (cap1 : Nat) (M : List VW) (o : Option Addr) (cap : Nat) (L : List VW) (w : World) (hL : VwsAt w o L) (hlen : L.length ≤ 9223372036854775807) (hM : VwsAt w o1 M) (hlM : M.length ≤ 9223372036854775807) (hc : w.cell? ⟨B, 0, none⟩ = some (.slice o1 M.length cap1)) :
    Calls Try.prog 120 #[.slice o L.length cap, .func (.func 121) #[] #[.pointer (some ⟨B, 0, none⟩)]] w fun e w' =>
      e = .returned (.bool (L.any (anyW M))) ∧ Below w.heap.size w w' := by
  have HI := hide (indexSO_any B o1 cap1 M o cap L w hL hlen hM hlM hc)
  clear hL hM hlM hc
  generalize (anyW M) = g at *
  go_enter Try.func120, Try.ntmps120
  go_wp2_with fail
  refine HI.out.mono ?_
  rintro e w' ⟨⟨n, rfl, hn⟩, hb⟩
  have HN := hide hn
  clear hn
  go_wp2_with fail
  go_ret
  exact ⟨by rw [← HN.out]; rfl, hb⟩

set_option maxRecDepth 100000 in
theorem split_any (o : Option Addr) (cap : Nat) (L : List VW) (w : World) (hL : VwsAt w o L) (hlen : L.length ≤ 9223372036854775807) :
    Calls Try.prog 98 #[.slice o L.length cap] w fun x w' => x = .returned (.bool (splW L)) ∧ Below w.heap.size w w' := by
  have HB := hide ((Blks.nil w).more (.cells #[.slice o L.length cap] 56) (by simp))
  have HC := hide (containsSO_any w.heap.size o cap L o cap L _ (hL.below HB.out.2.2) hlen (hL.below HB.out.2.2) hlen (HB.out.cell 0 0 _ _ _ _ rfl rfl rfl))
  clear hL
  have hs : splW L = L.any (anyW L) := rfl
  rw [hs]
  clear hs
  generalize L.any (anyW L) = R at *
  go_enter Try.func98, Try.ntmps98
  go_wp2_with fail
  refine HC.out.mono ?_
  rintro e w1 ⟨rfl, hb⟩
  have HB1 := hide (HB.out.on hb)
  clear hb HB
  go_wp2_with fail
  go_ret
  exact ⟨rfl, HB1.out.2.2⟩

theorem firstE_cons (e : Int) (l : List Int) : firstE (e :: l) = if e = 0 then firstE l else e := rfl

theorem dropW {L : List VW} {q : Nat} {x : VW} (h : L[q]? = some x) : L.drop q = x :: L.drop (q + 1) := by
  obtain ⟨h1, h2⟩ := List.getElem?_eq_some_iff.1 h
  rw [List.drop_eq_getElem_cons h1, h2]

set_option maxHeartbeats 1600000 in
set_option maxRecDepth 100000 in
theorem leadCheck_any (o : Option Addr) (cap : Nat) (L : List VW) (w : World) (hL : VwsAt w o L) (hlen : L.length ≤ 9223372036854775807) :
    Calls Try.prog 71 #[.slice o L.length cap] w fun x w' => x = .returned (.int .i64 (chkVs L)) ∧ Below w.heap.size w w' := by
  have HL := hide hL
  clear hL
  by_cases h3 : L.length = 3
  · have h3' : ((L.length : Int) != 3) = false := by simp [h3]
    have HC : Hid (chkVs L = if firstE (L.map chkW) = 0 then (if splW L = true then 4 else 0) else firstE (L.map chkW)) := by
      show _ = _
      rw [chkVs, if_pos h3]
    have HS := hide (fun W (h : VwsAt W o L) => split_any o cap L W h hlen)
    generalize chkVs L = R at *
    generalize splW L = S at *
    have H3 := hide h3
    clear h3
    go_enter Try.func71, Try.ntmps71
    go_wp2_with fail
    go_loopw [11] (fun j wr => ∃ (q : Nat), q ≤ L.length ∧ j = .int .i64 q ∧ Hid (firstE (L.map chkW) = firstE ((L.drop q).map chkW)) ∧ Below w.heap.size w wr) (fun j _ => L.length - (intOf j).toNat)
    case atStart => exact ⟨0, Nat.zero_le _, rfl, by show _ = _; simp, Below.refl _ _⟩
    case round =>
      obtain ⟨q, hq, rfl, hE, hbr⟩ := hrel
      by_cases hgo : q < L.length
      · obtain ⟨p, hp⟩ : ∃ p, L[q]? = some p := ⟨L[q], by simp [hgo]⟩
        obtain ⟨A, rfl, c0, c1, c2⟩ := (HL.out.below hbr) q p hp
        have hE' := hE.out
        rw [dropW hp, List.map_cons, firstE_cons] at hE'
        clear hE hp
        have HV := hide (fun W => checkView_any p.e p.l p.u W)
        have HE := hide hE'
        clear hE'
        have HW := hide hbr
        go_wp2_with fail
        refine (HV.out _).mono ?_
        rintro e w3 ⟨rfl, hb3⟩
        have HB := hide (HW.out.trans ((Below.alloc (Below.refl wr.heap.size wr) (Nat.le_refl _) (.cells #[.int .i64 p.e, .int .i64 p.l, .bool p.u] 106)).trans (hb3.mono (by simp)) |>.mono HW.out.size))
        clear hbr hb3
        generalize chkW ⟨p.e, p.l, p.u⟩ = E at *
        by_cases h0 : E = 0
        · subst h0
          have HE' := hide (show firstE (L.map chkW) = firstE ((L.drop (q + 1)).map chkW) from HE.out)
          go_wp2_with fail
          exact ⟨⟨q + 1, by omega, by simp, HE', HB.out⟩, by simp [intOf]; omega⟩
        · have h0' : (E != 0) = true := by simpa using h0
          have HR : Hid (R = E) := by
            show _ = _
            have h1 := HE.out
            rw [if_neg h0] at h1
            have h2 := HC.out
            rw [h1, if_neg h0] at h2
            exact h2
          clear h0
          go_wp2_with fail
          go_ret
          exact ⟨by rw [HR.out]; rfl, HB.out⟩
      · have HR : Hid (R = if S = true then 4 else 0) := by
          show _ = _
          have h1 := hE.out
          rw [List.drop_of_length_le (by omega)] at h1
          have h2 := HC.out
          rw [h1] at h2
          simpa [firstE] using h2
        have HW := hide hbr
        go_wp2_with fail
        refine (HS.out _ (HL.out.below HW.out)).mono ?_
        rintro e w3 ⟨rfl, hb3⟩
        have HB := hide (HW.out.trans (hb3.mono HW.out.size))
        clear hbr hb3
        cases S
        · go_wp2_with fail
          go_ret
          exact ⟨by rw [HR.out]; rfl, HB.out⟩
        · go_wp2_with fail
          go_ret
          exact ⟨by rw [HR.out]; rfl, HB.out⟩
  · have h3' : ((L.length : Int) != 3) = true := by simp; omega
    have hR : chkVs L = 1 := by rw [chkVs, if_neg h3]
    rw [hR]
    clear hR h3
    go_enter Try.func71, Try.ntmps71
    go_wp2_with fail
    go_ret
    exact ⟨rfl, Below.refl _ _⟩

set_option maxRecDepth 100000 in
theorem unfW_any (who n : Int) (o : Option Addr) (cap : Nat) (L : List VW) (w : World) (hL : VwsAt w o L) (hlen : L.length ≤ 9223372036854775807) (hn : 0 < n ∧ n < 100) :
    Calls Try.prog 68 #[.slice o L.length cap, .int .i64 who, .int .i64 n] w fun x w' => x = .returned (.int .i64 (unfW L who (n - 1))) ∧ Below w.heap.size w w' := by
  have HC := hide (fun W (h : VwsAt W o L) => leadCheck_any o cap L W h hlen)
  have HL := hide hL
  have hw : IntKind.i64.wrap (n - 1) = n - 1 := by rw [IntKind.wrap_i64]; omega
  have hp : ((chkVs L != 0) = true ∧ unfW L who (n - 1) = chkVs L) ∨ (chkVs L = 0 ∧ wi who 0 (n - 1) = true ∧ unfW L who (n - 1) = 0) ∨ (chkVs L = 0 ∧ wi who 0 (n - 1) = false ∧ unfW L who (n - 1) = 3) := by
    rw [unfW]
    by_cases h : chkVs L = 0
    · cases wi who 0 (n - 1) <;> simp [h]
    · simp [h]
  clear hL hn
  rcases hp with ⟨h1, h2⟩ | ⟨h1, h3, h2⟩ | ⟨h1, h3, h2⟩
  all_goals
    rw [h2]
    clear h2
    try rw [h1] at HC
    generalize chkVs L = E at *
    go_enter Try.func68, Try.ntmps68
    go_wp2_with fail
    refine (HC.out _ HL.out).mono ?_
    rintro e w1 ⟨rfl, hb⟩
    have HB := hide hb
    clear hb
    go_wp2_with (go_at_call 53; refine (within_any _ _ _ _).mono ?_; rintro e w' ⟨rfl, rfl⟩)
    go_ret
    exact ⟨rfl, HB.out⟩
end Go.Proofs.Ytcakfmpckbmdeae
