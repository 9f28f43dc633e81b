/-
  The walk of RuleTells.
-/
import Derived.Test.YtcakfmpckbmdeabP5
import Derived.Lib.QuietBelow
import Derived.BigQuiet
namespace Go.Proofs.Ytcakfmpckbmdeab
open Go.RowKit

/-- the two boxes of a law that takes a ticket and a tap -/
def Boxes2 (w w1 : World) (x : TK) (p : TP) : Prop := Tik6 w1 ⟨w.heap.size, 0, none⟩ x ∧ Tap5 w1 ⟨w.heap.size + 1, 0, none⟩ p ∧ w.heap.size + 1 < w1.heap.size ∧ Below w.heap.size w w1

theorem boxes2_of (i k f t z r a g s m zone : Int) (T1 T2 : TypeId) (w w1 : World) (h : Below ((w.alloc (cK i k f t z r T1)).alloc (cP a g s m zone T2)).heap.size ((w.alloc (cK i k f t z r T1)).alloc (cP a g s m zone T2)) w1) :
    Boxes2 w w1 ⟨i, k, f, t, z, r⟩ ⟨a, g, s, m, zone⟩ := by
  have s1 := h.size
  simp at s1
  refine ⟨Tik6.below (w := (w.alloc (cK i k f t z r T1)).alloc (cP a g s m zone T2)) ⟨?_, ?_, ?_, ?_, ?_, ?_⟩ h (by simp; omega), Tap5.below (w := (w.alloc (cK i k f t z r T1)).alloc (cP a g s m zone T2)) ⟨?_, ?_, ?_, ?_, ?_⟩ h (by simp), by omega,
    Below.trans (((Below.refl _ _).alloc (Nat.le_refl _) _).alloc (by simp) _) (h.mono (by simp; omega))⟩
  all_goals simp [go_sem]

theorem Boxes2.on {w w1 w2 : World} {x : TK} {p : TP} (h : Boxes2 w w1 x p) (hb : Below w1.heap.size w1 w2) : Boxes2 w w2 x p :=
  ⟨h.1.below hb h.1.lt, h.2.1.below hb h.2.1.lt, Nat.lt_of_lt_of_le h.2.2.1 hb.size, h.2.2.2.trans (hb.mono h.2.2.2.size)⟩

set_option maxHeartbeats 6400000 in
theorem ruleTells_walk (i k f t z r rides a g s m zone : Int) (o : Option Addr) (cap : Nat) (L : List TP) (w : World) (hL : TapsAt w o L) (hlen : L.length ≤ 9223372036854775807) :
    Calls Try.prog 4 #[tk i k f t z r, .slice o L.length cap, .int .i64 rides, tp a g s m zone] w fun e w' => e = .returned (.bool true) ∧ Below w.heap.size w w' := by
  have HL := hide hL
  clear hL
  have HJ := hide (fun W (h : TapsAt W o L) => judge_any i k f t z r rides a g s m zone o cap L W h hlen)
  have HC := hide (fun W (h : TapsAt W o L) => checkJudge_any i k f t z r rides a g s m zone o cap L W h hlen)
  have HR := hide (fun (h : errJ i k f t z r rides ⟨a, g, s, m, zone⟩ L = 0) => errJ_right h)
  generalize hV : judgeV i k f t z r rides ⟨a, g, s, m, zone⟩ L = V at HJ
  unfold judgeV at hV
  generalize errJ i k f t z r rides ⟨a, g, s, m, zone⟩ L = E at *
  by_cases hE : E = 0
  · subst hE
    rw [if_neg (by simp)] at hV
    obtain ⟨h1, h2, -, h4, -⟩ := HR.out rfl
    obtain ⟨-, -, -, ⟨z1, z2⟩, -⟩ := chk_right h1
    obtain ⟨-, -, -, ⟨m1, m2⟩, hzone⟩ := chkP_right h2
    have HO := hide (fun W (l : Int) (e1 : l ≤ 9999) (e2 : -1 ≤ l) => judgeOf_any i k f t z r l rides a g s m zone W (by omega) z2 hzone e1 e2)
    have H4 := hide (fun p hp => (chkP_right (h4 p hp)).2.2.2.1)
    clear h1 h2 h4 z1 z2 m1 m2 hzone HR
    rcases hn : L.length with _ | n
    · have hL0 : L = [] := List.eq_nil_of_length_eq_zero hn
      subst hL0
      clear hn
      have HO' := hide (fun W => HO.out W (-1) (by omega) (by omega))
      clear HO
      simp only [show lastT [] = -1 from rfl] at hV
      rw [hV] at HO'
      clear hV
      go_enter Try.func4, Try.ntmps4
      go_wp2_with fail
      refine (HJ.out _ (HL.out.below ?_)).mono ?_
      · repeat (first | with_reducible exact Below.refl _ _ | with_reducible refine Below.alloc ?_ (by simp; try omega) _ | with_reducible refine Below.setCell ?_ (by simp; try omega) _)
      rintro e w1 ⟨rfl, hb1⟩
      have HB1 := hide (boxes2_of _ _ _ _ _ _ _ _ _ _ _ _ _ _ _ hb1)
      clear hb1
      obtain ⟨⟨x0, x1, x2, x3, x4, x5⟩, ⟨y0, y1, y2, y3, y4⟩, -, -⟩ := HB1.out
      simp only [Nat.zero_add] at x0 x1 x2 x3 x4 x5 y0 y1 y2 y3 y4
      go_wp2_with fail
      refine (HC.out _ (HL.out.below HB1.out.2.2.2)).mono ?_
      rintro e w2 ⟨rfl, hb2⟩
      have HB2 := hide (HB1.out.on hb2)
      clear hb2 HB1 x0 x1 x2 x3 x4 x5 y0 y1 y2 y3 y4
      obtain ⟨⟨x0, x1, x2, x3, x4, x5⟩, ⟨y0, y1, y2, y3, y4⟩, -, -⟩ := HB2.out
      simp only [Nat.zero_add] at x0 x1 x2 x3 x4 x5 y0 y1 y2 y3 y4
      go_wp2_with fail
      refine (HO'.out _).mono ?_
      rintro e w3 ⟨rfl, hb3⟩
      have HB3 := hide (HB2.out.on hb3)
      clear hb3 HB2 x0 x1 x2 x3 x4 x5 y0 y1 y2 y3 y4
      go_wp2_with fail
      obtain ⟨-, ⟨y0, y1, y2, y3, y4⟩, -, hB⟩ := HB3.out
      simp only [Nat.zero_add] at y0 y1 y2 y3 y4
      clear HB3 HJ HC HL
      have k0 := cell_regrown y0
      have k1 := cell_regrown y1
      have k2 := cell_regrown y2
      have k3 := cell_regrown y3
      have k4 := cell_regrown y4
      have cB : ∀ d os, Calls Try.prog 15 #[] (Sort.grow (redrawn w3 d) os) fun e w'' => e = .returned (.bool true) ∧ ∃ p : Regrown, w'' = Sort.grow (redrawn w3 p.d) p.os := fun d os => Calls.regrown_of (ruleBegun_any _)
      have cC : ∀ d os, Calls Try.prog 16 #[tp a g s m zone] (Sort.grow (redrawn w3 d) os) fun e w'' => e = .returned (.int .i64 (chkP a g s m zone)) ∧ ∃ p : Regrown, w'' = Sort.grow (redrawn w3 p.d) p.os := fun d os => Calls.regrown_of (checkP_any a g s m zone _)
      have cD : ∀ d os, Calls Try.prog 17 #[tp a g s m zone] (Sort.grow (redrawn w3 d) os) fun e w'' => e = .returned (.int .i64 (chkP a g s m zone)) ∧ ∃ p : Regrown, w'' = Sort.grow (redrawn w3 p.d) p.os := fun d os => Calls.regrown_of (checkTap_any a g s m zone _)
      generalize chkP a g s m zone = X at cC cD
      clear y0 y1 y2 y3 y4
      refine wp_region_quiet_below (by kernel_rfl) (by kernel_rfl) ?_
      repeat (quiet_step (first | exact cB _ _ | exact cC _ _ | exact cD _ _))
      refine wpQuiet_nil ?_
      intro _ hw'
      obtain ⟨⟨dq, osq⟩, hw''⟩ := hw'
      subst hw''
      go_wp2
      go_ret
      exact ⟨rfl, hB.trans ((below_regrown w3 dq osq).mono hB.size)⟩
    · obtain ⟨p, hp⟩ : ∃ p, L[n]? = some p := ⟨L[n]'(by omega), by simp [hn]⟩
      have hm := H4.out p (List.mem_of_getElem? hp)
      have HO' := hide (fun W => HO.out W p.m (by omega) (by omega))
      clear HO
      rw [lastT_at L p n hn hp] at hV
      simp only [] at hV
      rw [hV] at HO'
      clear hV hm H4
      have HP := hide (fun W (h : Below w.heap.size w W) => ((HL.out.below h) n p hp : ∃ b, o = some b ∧ Tap5 W (b.add (n * 5)) p))
      have hnb : n < 9223372036854775807 := by omega
      rw [hn] at HJ HC
      clear hp hn
      go_enter Try.func4, Try.ntmps4
      go_wp2_with fail
      refine (HJ.out _ (HL.out.below ?_)).mono ?_
      · repeat (first | with_reducible exact Below.refl _ _ | with_reducible refine Below.alloc ?_ (by simp; try omega) _ | with_reducible refine Below.setCell ?_ (by simp; try omega) _)
      rintro e w1 ⟨rfl, hb1⟩
      have HB1 := hide (boxes2_of _ _ _ _ _ _ _ _ _ _ _ _ _ _ _ hb1)
      clear hb1
      obtain ⟨⟨x0, x1, x2, x3, x4, x5⟩, ⟨y0, y1, y2, y3, y4⟩, -, -⟩ := HB1.out
      simp only [Nat.zero_add] at x0 x1 x2 x3 x4 x5 y0 y1 y2 y3 y4
      go_wp2_with fail
      refine (HC.out _ (HL.out.below HB1.out.2.2.2)).mono ?_
      rintro e w2 ⟨rfl, hb2⟩
      have HB2 := hide (HB1.out.on hb2)
      clear hb2 HB1 x0 x1 x2 x3 x4 x5 y0 y1 y2 y3 y4
      obtain ⟨⟨x0, x1, x2, x3, x4, x5⟩, ⟨y0, y1, y2, y3, y4⟩, -, -⟩ := HB2.out
      simp only [Nat.zero_add] at x0 x1 x2 x3 x4 x5 y0 y1 y2 y3 y4
      obtain ⟨A, rfl, c0, c1, c2, c3, c4⟩ := HP.out w2 HB2.out.2.2.2
      go_wp2_with fail
      refine (HO'.out _).mono ?_
      rintro e w3 ⟨rfl, hb3⟩
      have HB3 := hide (HB2.out.on hb3)
      clear hb3 HB2 x0 x1 x2 x3 x4 x5 y0 y1 y2 y3 y4 c0 c1 c2 c3 c4
      go_wp2_with fail
      obtain ⟨-, ⟨y0, y1, y2, y3, y4⟩, -, hB⟩ := HB3.out
      simp only [Nat.zero_add] at y0 y1 y2 y3 y4
      clear HB3 HJ HC HL
      have k0 := cell_regrown y0
      have k1 := cell_regrown y1
      have k2 := cell_regrown y2
      have k3 := cell_regrown y3
      have k4 := cell_regrown y4
      have cB : ∀ d os, Calls Try.prog 15 #[] (Sort.grow (redrawn w3 d) os) fun e w'' => e = .returned (.bool true) ∧ ∃ p : Regrown, w'' = Sort.grow (redrawn w3 p.d) p.os := fun d os => Calls.regrown_of (ruleBegun_any _)
      have cC : ∀ d os, Calls Try.prog 16 #[tp a g s m zone] (Sort.grow (redrawn w3 d) os) fun e w'' => e = .returned (.int .i64 (chkP a g s m zone)) ∧ ∃ p : Regrown, w'' = Sort.grow (redrawn w3 p.d) p.os := fun d os => Calls.regrown_of (checkP_any a g s m zone _)
      have cD : ∀ d os, Calls Try.prog 17 #[tp a g s m zone] (Sort.grow (redrawn w3 d) os) fun e w'' => e = .returned (.int .i64 (chkP a g s m zone)) ∧ ∃ p : Regrown, w'' = Sort.grow (redrawn w3 p.d) p.os := fun d os => Calls.regrown_of (checkTap_any a g s m zone _)
      generalize chkP a g s m zone = X at cC cD
      clear y0 y1 y2 y3 y4
      refine wp_region_quiet_below (by kernel_rfl) (by kernel_rfl) ?_
      repeat (quiet_step (first | exact cB _ _ | exact cC _ _ | exact cD _ _))
      refine wpQuiet_nil ?_
      intro _ hw'
      obtain ⟨⟨dq, osq⟩, hw''⟩ := hw'
      subst hw''
      go_wp2
      go_ret
      exact ⟨rfl, hB.trans ((below_regrown w3 dq osq).mono hB.size)⟩
  · rw [if_pos hE] at hV
    subst hV
    have hE' : (E == 0) = false := by simpa using hE
    clear hE HR
    go_enter Try.func4, Try.ntmps4
    go_wp2_with fail
    refine (HJ.out _ (HL.out.below ?_)).mono ?_
    · repeat (first | with_reducible exact Below.refl _ _ | with_reducible refine Below.alloc ?_ (by simp; try omega) _ | with_reducible refine Below.setCell ?_ (by simp; try omega) _)
    rintro e w1 ⟨rfl, hb1⟩
    have HB1 := hide (boxes2_of _ _ _ _ _ _ _ _ _ _ _ _ _ _ _ hb1)
    clear hb1
    obtain ⟨⟨x0, x1, x2, x3, x4, x5⟩, ⟨y0, y1, y2, y3, y4⟩, -, -⟩ := HB1.out
    simp only [Nat.zero_add] at x0 x1 x2 x3 x4 x5 y0 y1 y2 y3 y4
    go_wp2_with fail
    refine (HC.out _ (HL.out.below HB1.out.2.2.2)).mono ?_
    rintro e w3 ⟨rfl, hb2⟩
    have HB3 := hide (HB1.out.on hb2)
    clear hb2 HB1 x0 x1 x2 x3 x4 x5 y0 y1 y2 y3 y4
    go_wp2_with fail
    obtain ⟨-, ⟨y0, y1, y2, y3, y4⟩, -, hB⟩ := HB3.out
    simp only [Nat.zero_add] at y0 y1 y2 y3 y4
    clear HB3 HJ HC HL
    have k0 := cell_regrown y0
    have k1 := cell_regrown y1
    have k2 := cell_regrown y2
    have k3 := cell_regrown y3
    have k4 := cell_regrown y4
    have cB : ∀ d os, Calls Try.prog 15 #[] (Sort.grow (redrawn w3 d) os) fun e w'' => e = .returned (.bool true) ∧ ∃ p : Regrown, w'' = Sort.grow (redrawn w3 p.d) p.os := fun d os => Calls.regrown_of (ruleBegun_any _)
    have cC : ∀ d os, Calls Try.prog 16 #[tp a g s m zone] (Sort.grow (redrawn w3 d) os) fun e w'' => e = .returned (.int .i64 (chkP a g s m zone)) ∧ ∃ p : Regrown, w'' = Sort.grow (redrawn w3 p.d) p.os := fun d os => Calls.regrown_of (checkP_any a g s m zone _)
    have cD : ∀ d os, Calls Try.prog 17 #[tp a g s m zone] (Sort.grow (redrawn w3 d) os) fun e w'' => e = .returned (.int .i64 (chkP a g s m zone)) ∧ ∃ p : Regrown, w'' = Sort.grow (redrawn w3 p.d) p.os := fun d os => Calls.regrown_of (checkTap_any a g s m zone _)
    generalize chkP a g s m zone = X at cC cD
    clear y0 y1 y2 y3 y4
    refine wp_region_quiet_below (by kernel_rfl) (by kernel_rfl) ?_
    repeat (quiet_step (first | exact cB _ _ | exact cC _ _ | exact cD _ _))
    refine wpQuiet_nil ?_
    intro _ hw'
    obtain ⟨⟨dq, osq⟩, hw''⟩ := hw'
    subst hw''
    go_wp2
    go_ret
    exact ⟨rfl, hB.trans ((below_regrown w3 dq osq).mono hB.size)⟩
end Go.Proofs.Ytcakfmpckbmdeab
