/-
  Views: 'WinOf' (package leeboardref).
-/
import Derived.Test.YtcakfmpckbmdeafV9
namespace Go.Proofs.Ytcakfmpckbmdeaf
open Go.RowKit

/-- the greatest epoch -/
def maxE (L : List VW) : Int := L.foldl (fun m v => if m < v.e then v.e else m) 0

theorem maxE_snoc (L : List VW) (p : VW) : maxE (L ++ [p]) = if maxE L < p.e then p.e else maxE L := by
  rw [maxE, List.foldl_append]
  rfl

theorem maxE_top {L : List VW} (h : ∀ p ∈ L, 0 ≤ p.e) (hne : L ≠ []) : maxE L = (topW L).e := by
  cases L with
  | nil => exact absurd rfl hne
  | cons x r =>
    have key : ∀ (r : List VW) (x : VW), r.foldl (fun (m : Int) (v : VW) => if m < v.e then v.e else m) x.e = (r.foldl (fun m y : VW => if m.e < y.e then y else m) x).e := by
      intro r
      induction r with
      | nil => intro x; rfl
      | cons y r ih =>
        intro x
        rw [List.foldl_cons, List.foldl_cons]
        split
        · exact ih y
        · exact ih x
    have hx := h x (by simp)
    show List.foldl _ (if 0 < x.e then x.e else 0) r = (List.foldl _ x r).e
    rw [show (if 0 < x.e then x.e else 0) = x.e by split <;> omega]
    exact key r x

theorem three_new (w : World) (x : VW) (T : TypeId) : ∀ j u, [Value.int .i64 x.e, .int .i64 x.l, .bool x.u][j]? = some u → (w.alloc (.cells #[.int .i64 x.e, .int .i64 x.l, .bool x.u] T)).cell? ((⟨w.heap.size, 0, none⟩ : Addr).add j) = some u := by
  intro j u hj
  match j, hj with
  | 0, hj | 1, hj | 2, hj =>
    simp at hj
    subst hj
    simp [Addr.add, go_sem]

set_option maxHeartbeats 6400000 in
theorem winOf_any (o : Option Addr) (cap : Nat) (L : List VW) (who : Int) (w : World) (hL : VwsAt w o L) (hcap : L.length ≤ cap) (hnone : o = none → cap = 0) (h0 : chkVs L = 0) :
    Calls Try.prog 10 #[.slice o L.length cap, .int .i64 who] w fun e w' => (∃ o' n c', e = .returned (.tuple #[.slice o' n c', .bool (winB L who), .int .i64 (winE L who)]) ∧ VwsV w' (.slice o' n c') (winR L who)) ∧ Below w.heap.size w w' := by
  have hu : unfW L who 1 = if wi who 0 1 = true then 0 else 3 := by rw [unfW, if_pos h0]
  have HL := hide (And.intro hL (And.intro hcap hnone))
  clear hL hcap hnone
  cases hw : wi who 0 1
  · rw [hw, if_neg (by decide)] at hu
    rcases winE_ways L who with ⟨-, h1, h2, h3⟩ | ⟨h, -⟩ | ⟨h, -⟩ | ⟨h, -⟩ | ⟨h, -⟩
    · rw [h1, h2, h3, hu]
      clear h1 h2 h3 hu h0
      go_enter Try.func10, Try.ntmps10
      go_wp2_with (go_at_call 23; refine (between_any _ _ _ _).mono ?_; rintro e w' ⟨rfl, hw'⟩; obtain rfl := hw'.symm; rw [hw])
      go_ret3
      exact ⟨⟨_, _, _, rfl, vwsV_nil _⟩, Below.refl _ _⟩
    all_goals omega
  · rw [hw, if_pos rfl] at hu
    obtain ⟨-, hw0, hw1⟩ := unfW_right hu
    have hl3 := right_len h0
    obtain ⟨k, rfl⟩ : ∃ k : Nat, who = (k : Int) := ⟨who.toNat, by omega⟩
    obtain ⟨pl, hpl⟩ : ∃ pl, L[k]? = some pl := ⟨L[k]'(by omega), by simp⟩
    have hup : upAt L k = pl.u := by simp [upAt, hpl]
    have hp := winE_ways L k
    rw [hu] at hp
    simp only [ne_eq, not_true_eq_false, false_and, false_or, true_and, hup] at hp
    have htop := maxE_top (fun p hp => (right_range h0 p hp).1) (show L ≠ [] by intro e; rw [e] at hl3; simp at hl3)
    have HT0 : Hid (0 ≤ (topW L).e ∧ (topW L).e ≤ 99) := by
      have := right_range h0 _ (topW_mem L (by intro e; rw [e] at hl3; simp at hl3))
      exact ⟨this.1, this.2.1⟩
    rw [← htop] at hp HT0
    have hmost : mostW upG L = decide (2 ≤ (L.countP upG : Int)) := by rw [mostW, decide_eq_decide]; omega
    rw [hmost] at hp
    have HP := hide hpl
    have H3 := hide hl3
    have HW := hide hp
    have HRg : Hid (∀ p ∈ L, 0 ≤ p.e ∧ p.e ≤ 99) := fun p hp => ⟨(right_range h0 p hp).1, (right_range h0 p hp).2.1⟩
    have hkL : (k : Int) < (L.length : Int) := by omega
    have hlen : L.length ≤ 60 := by omega
    clear hu hl3 hup hpl hp htop hmost hw0 hw1 h0
    generalize winE L k = WE at *
    generalize winB L k = WB at *
    generalize winR L k = WR at *
    obtain ⟨i0, hi, hz0, hz1, hz2⟩ := info_parts infoVw
    go_enter Try.func10, Try.ntmps10
    go_wp2_with fail
    refine (between_any _ _ _ _).mono ?_
    rintro e w' ⟨rfl, hw'⟩
    obtain rfl := hw'.symm
    rw [hw]
    clear hw
    go_wp2_with fail
    go_loopw [7, 8, 9] (fun n t j ws => ∃ (q c : Nat) (M : Int), q ≤ 3 ∧ c ≤ q ∧ j = .int .i64 q ∧ n = .int .i64 c ∧ t = .int .i64 M ∧ Hid (c = (L.take q).countP upG ∧ M = maxE (L.take q)) ∧ ws = w) (fun _ _ j _ => 3 - (intOf j).toNat)
    case atStart => exact ⟨0, 0, 0, by omega, by omega, rfl, rfl, rfl, ⟨by simp, by simp [maxE]⟩, rfl⟩
    case round =>
      obtain ⟨q, c, M, hq, hc, rfl, rfl, rfl, hS, hws⟩ := hrel
      obtain rfl := hws.symm
      by_cases hgo : q < 3
      · obtain ⟨p, hp⟩ : ∃ p, L[q]? = some p := ⟨L[q]'(by have := H3.out; omega), by simp⟩
        have hqL : (q : Int) < (L.length : Int) := by have := H3.out; omega
        have hq3 : (q : Int) < 3 := by omega
        obtain ⟨A, rfl, c0, c1, c2⟩ := HL.out.1 q p hp
        have HS : Hid ((L.take (q + 1)).countP upG = c + (if upG p = true then 1 else 0) ∧ maxE (L.take (q + 1)) = if M < p.e then p.e else M) := by
          obtain ⟨s1, s2⟩ := hS.out
          refine ⟨?_, ?_⟩
          · rw [List.take_add_one, hp, Option.toList_some, List.countP_append, s1]; simp [List.countP_cons]
          · rw [List.take_add_one, hp, Option.toList_some, maxE_snoc, s2]
        clear hp hS
        obtain ⟨pe, pll, pu⟩ := p
        simp only [] at c0 c1 c2
        have u1 : upG ⟨pe, pll, pu⟩ = pu := rfl
        rw [u1] at HS
        clear u1
        cases pu
        all_goals
          by_cases hm : M < pe
        · have HS' : Hid (c = (L.take (q + 1)).countP upG ∧ pe = maxE (L.take (q + 1))) := by
            obtain ⟨s1, s2⟩ := HS.out
            exact ⟨by rw [s1]; simp, by rw [s2, if_pos hm]⟩
          clear HS
          go_wp2_with fail
          exact ⟨⟨q + 1, c, pe, by omega, by omega, by simp, rfl, rfl, HS', by first | rfl | trivial⟩, by simp [intOf]; omega⟩
        · have HS' : Hid (c = (L.take (q + 1)).countP upG ∧ M = maxE (L.take (q + 1))) := by
            obtain ⟨s1, s2⟩ := HS.out
            exact ⟨by rw [s1]; simp, by rw [s2, if_neg hm]⟩
          clear HS
          go_wp2_with fail
          exact ⟨⟨q + 1, c, M, by omega, by omega, by simp, rfl, rfl, HS', by first | rfl | trivial⟩, by simp [intOf]; omega⟩
        · have HS' : Hid (c + 1 = (L.take (q + 1)).countP upG ∧ pe = maxE (L.take (q + 1))) := by
            obtain ⟨s1, s2⟩ := HS.out
            exact ⟨by rw [s1]; simp, by rw [s2, if_pos hm]⟩
          clear HS
          go_wp2_with fail
          exact ⟨⟨q + 1, c + 1, pe, by omega, by omega, by simp, by simp, rfl, HS', by first | rfl | trivial⟩, by simp [intOf]; omega⟩
        · have HS' : Hid (c + 1 = (L.take (q + 1)).countP upG ∧ M = maxE (L.take (q + 1))) := by
            obtain ⟨s1, s2⟩ := HS.out
            exact ⟨by rw [s1]; simp, by rw [s2, if_neg hm]⟩
          clear HS
          go_wp2_with fail
          exact ⟨⟨q + 1, c + 1, M, by omega, by omega, by simp, by simp, rfl, HS', by first | rfl | trivial⟩, by simp [intOf]; omega⟩
      · have hq3 : ¬ ((q : Int) < 3) := by omega
        have hS' := hS.out
        rw [List.take_of_length_le (by have := H3.out; omega)] at hS'
        have hp := HW.out
        rw [← hS'.1, ← hS'.2] at hp
        rw [← hS'.2] at HT0
        clear hS hS' HW
        obtain ⟨pe, pll, pu⟩ := pl
        simp only [] at hp
        obtain ⟨A, hA, c0, c1, c2⟩ := HL.out.1 k _ HP.out
        simp only [] at c2
        obtain rfl := hA
        by_cases hc2 : c < 2
        · have hc2' : (c : Int) < 2 := by omega
          have hR : WE = 0 ∧ WB = false ∧ WR = L := by
            rcases hp with ⟨-, h⟩ | ⟨-, -, h⟩ | ⟨-, h, -⟩ | ⟨-, h, -⟩
            · exact h
            · exact h
            · simp at h; omega
            · simp at h; omega
          obtain ⟨rfl, rfl, rfl⟩ := hR
          clear hp
          go_wp2_with fail
          go_ret3
          exact ⟨⟨_, _, _, rfl, some A, cap, rfl, HL.out.1, HL.out.2⟩, Below.refl _ _⟩
        · have hc2' : ¬ ((c : Int) < 2) := by omega
          have hd : decide (2 ≤ (c : Int)) = true := by simp; omega
          rw [hd] at hp
          simp only [Bool.true_eq_false, false_and, and_false, false_or, true_and] at hp
          cases pu
          · have hR : WE = 0 ∧ WB = false ∧ WR = L := by simpa using hp
            obtain ⟨rfl, rfl, rfl⟩ := hR
            clear hp hd
            go_wp2_with fail
            go_ret3
            exact ⟨⟨_, _, _, rfl, some A, cap, rfl, HL.out.1, HL.out.2⟩, Below.refl _ _⟩
          · simp only [Bool.true_eq_false, false_and, false_or, true_and] at hp
            rcases hp with ⟨h1, rfl, rfl, rfl⟩ | ⟨h1, rfl, rfl, h2⟩
            · have h1' : (M == 99) = true := by simpa using h1
              clear h1 hd
              go_wp2_with fail
              go_ret3
              exact ⟨⟨_, _, _, rfl, vwsV_nil _⟩, Below.refl _ _⟩
            · have h1' : (M == 99) = false := by simpa using h1
              have hwr : IntKind.i64.wrap (M + 1) = M + 1 := by have := HT0.out; rw [IntKind.wrap_i64]; omega
              have HWR := hide h2
              clear h1 hd h2
              go_wp2_with fail
              clear c0 c1 c2
              go_loopw [10, 11] (fun v j ws => ∃ (n : Nat), n ≤ 3 ∧ j = .int .i64 n ∧ Hid (ws.ownsRow w.heap.size 38 3 v n (cellsW (promW (L.take n) (M + 1) k))) ∧ Hid (Below w.heap.size w ws)) (fun _ j _ => 3 - (intOf j).toNat)
              case atStart => exact ⟨0, by omega, rfl, World.ownsRow_nil _ _ _ _, Below.refl _ _⟩
              case round =>
                obtain ⟨n, hn, rfl, hO, hB⟩ := hrel
                by_cases hgn : n < 3
                · obtain ⟨p, hp⟩ : ∃ p, L[n]? = some p := ⟨L[n]'(by have := H3.out; omega), by simp⟩
                  have hnL : (n : Int) < (L.length : Int) := by have := H3.out; omega
                  have hn3 : (n : Int) < 3 := by omega
                  obtain ⟨A', eA, c0, c1, c2⟩ := (HL.out.1.below hB.out) n p hp
                  cases eA
                  obtain ⟨x, hx⟩ : ∃ x : VW, x = if p.u = true then ⟨M + 1, k, true⟩ else p := ⟨_, rfl⟩
                  have HS : Hid (cellsW (promW (L.take (n + 1)) (M + 1) k) = cellsW (promW (L.take n) (M + 1) k) ++ [.int .i64 x.e, .int .i64 x.l, .bool x.u]) := by
                    show _ = _
                    rw [List.take_add_one, hp, Option.toList_some, promW, List.map_append, cellsW_app, hx]
                    rfl
                  have HN : Hid (∀ j u, [Value.int .i64 x.e, .int .i64 x.l, .bool x.u][j]? = some u → ((wr.alloc (.cells #[.int .i64 x.e, .int .i64 x.l, .bool x.u] 38)).alloc (.cells #[.int .i64 x.e, .int .i64 x.l, .bool x.u] 38)).cell? ((⟨wr.heap.size + 1, 0, none⟩ : Addr).add j) = some u) := by
                    have h := three_new (wr.alloc (.cells #[.int .i64 x.e, .int .i64 x.l, .bool x.u] 38)) x 38
                    rw [show (wr.alloc (.cells #[.int .i64 x.e, .int .i64 x.l, .bool x.u] 38)).heap.size = wr.heap.size + 1 by simp] at h
                    exact h
                  have hA' : (A.add (n * 3)).block < wr.heap.size := World.block_lt_of_cell? wr (A.add (n * 3)) c0
                  clear hp
                  obtain ⟨pe, pll', pu⟩ := p
                  simp only [] at c0 c1 c2 hx
                  have hgrowB := hB.out.size
                  cases pu
                  all_goals
                    simp only [Bool.false_eq_true, if_false, if_true] at hx
                    subst hx
                    simp only [] at HS HN
                    go_wp2_with (at_builtin; refine wpList_append_own _ rfl (.tmp 66) (.tmp 68) 22 rfl w.heap.size 38 i0 _ 3 24 Try.underlying22 hi hz0 hz1 hz2 rfl (by decide) _ n _ rfl ((hO.out.alloc _).alloc _) ⟨wr.heap.size + 1, 0, none⟩ 1 1 [_, _, _] rfl rfl HN.out (by intro u hu; simp at hu; rcases hu with rfl | rfl | rfl <;> rfl) (by unfold maxLen; omega) (by omega) (by simp; omega) ?_; intro v1 w1 hown1 hgrow1 _)
                    refine ⟨⟨n + 1, by omega, by simp, ?_, ((hB.out.alloc (by omega) _).alloc (by simp; omega) _).grown hgrow1 (by simp; omega) (fun k hk => (hO.out.lt k hk).1)⟩, by simp [intOf]; omega⟩
                    show Hid _
                    rw [HS.out]
                    exact hown1
                · have hn3 : ¬ ((n : Int) < 3) := by omega
                  have hO' := hO.out
                  rw [List.take_of_length_le (by have := H3.out; omega), ← HWR.out] at hO'
                  have HO := hide hO'
                  clear hO hO'
                  obtain ⟨o', c', hv, hx⟩ := vwsV_own HO.out
                  subst hv
                  have HX := hide hx
                  clear hx
                  go_wp2_with fail
                  go_ret3
                  exact ⟨⟨_, _, _, rfl, o', c', rfl, HX.out⟩, hB.out⟩
end Go.Proofs.Ytcakfmpckbmdeaf
