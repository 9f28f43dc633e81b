/-
  The walk of MergeOnce.
-/
import Derived.Test.YtefdnddaggpgkaaF13
import Derived.Test.YtefdnddaggpgkaaW2
import Derived.Test.YtefdnddaggpgkaaR1
import Derived.Test.YtefdnddaggpgkaaH1
namespace Go.Proofs.Ytefdnddaggpgkaa
open Go.RowKit

theorem row_on {w w' : World} {b : Nat} {o : Obj} (h : w.heap[b]? = some o) (hb : Below w.heap.size w w') : w'.heap[b]? = some o := by
  rw [hb.block _ (Array.getElem?_eq_some_iff.1 h).1]
  exact h

set_option maxHeartbeats 6400000 in
set_option maxRecDepth 100000 in
theorem mergeOnce_walk (o1 o2 o3 : Option Addr) (T : List TK) (P : List TP) (V : List Int) (c1 c2 c3 : Nat) (n a g s m z : Int) (w : World) (hled : LedV w (lg o1 o2 o3 T.length c1 P.length c2 V.length c3) T P V) (hl : LensOk T P V) :
    Calls Try.prog 3 #[lg o1 o2 o3 T.length c1 P.length c2 V.length c3, .int .i64 n, tp a g s m z] w fun e w' => e = .returned (.bool true) ∧ Below w.heap.size w w' := by
  have HG := hide (((Blks.nil w).more (.cells #[.slice o1 T.length c1, .slice o2 P.length c2, .slice o3 V.length c3] 26) (by simp)).more (.cells #[.int .i64 a, .int .i64 g, .int .i64 s, .int .i64 m, .int .i64 z] 28) (by simp))
  have HCk := hide (fun W (h : LedV W (lg o1 o2 o3 T.length c1 P.length c2 V.length c3) T P V) => checkV h hl)
  have HLed := hide hled
  have hways : ((chkL T P V != 0) = true) ∨ (chkL T P V = 0 ∧ n < 0) ∨ (chkL T P V = 0 ∧ 0 ≤ n ∧ (P.length : Int) ≤ n) ∨ (chkL T P V = 0 ∧ 0 ≤ n ∧ n < (P.length : Int) ∧ (chkP a g s m z != 0) = true) ∨ (chkL T P V = 0 ∧ 0 ≤ n ∧ n < (P.length : Int) ∧ chkP a g s m z = 0) := by
    by_cases h1 : chkL T P V = 0
    · by_cases h2 : n < 0
      · exact .inr (.inl ⟨h1, h2⟩)
      · by_cases h3 : (P.length : Int) ≤ n
        · exact .inr (.inr (.inl ⟨h1, by omega, h3⟩))
        · by_cases h4 : chkP a g s m z = 0
          · exact .inr (.inr (.inr (.inr ⟨h1, by omega, by omega, h4⟩)))
          · exact .inr (.inr (.inr (.inl ⟨h1, by omega, by omega, by simpa using h4⟩)))
    · exact .inl (by simpa using h1)
  clear hled
  rcases hways with h1 | ⟨h1, h2⟩ | ⟨h1, h2, h3⟩ | ⟨h1, h2, h3, h4⟩ | ⟨h1, h2, h3, h4⟩
  · generalize chkL T P V = E at *
    go_enter Try.func3, Try.ntmps3
    go_wp2_with fail
    refine (mergeBegun_any _).mono ?_
    rintro e w1 ⟨rfl, hb⟩
    have HG1 := hide (HG.out.on hb)
    clear hb HG
    go_wp2_with fail
    refine (ledgerBegun_any _).mono ?_
    rintro e w2 ⟨rfl, hb⟩
    have HG2 := hide (HG1.out.on hb)
    clear hb HG1
    have l0 := HG2.out.cell 0 0 w.heap.size _ _ _ rfl rfl rfl
    have l1 := HG2.out.cell 0 1 w.heap.size _ _ _ rfl rfl rfl
    have l2 := HG2.out.cell 0 2 w.heap.size _ _ _ rfl rfl rfl
    go_wp2_with fail
    refine (HCk.out _ (HLed.out.below HG2.out.2.2)).mono ?_
    rintro e w3 ⟨rfl, hb⟩
    have HG3 := hide (HG2.out.on hb)
    clear hb HG2 l0 l1 l2
    have l0 := HG3.out.cell 0 0 w.heap.size _ _ _ rfl rfl rfl
    have l1 := HG3.out.cell 0 1 w.heap.size _ _ _ rfl rfl rfl
    have l2 := HG3.out.cell 0 2 w.heap.size _ _ _ rfl rfl rfl
    have t0 := HG3.out.cell 1 0 (w.heap.size + 1) _ _ _ rfl rfl rfl
    have t1 := HG3.out.cell 1 1 (w.heap.size + 1) _ _ _ rfl rfl rfl
    have t2 := HG3.out.cell 1 2 (w.heap.size + 1) _ _ _ rfl rfl rfl
    have t3 := HG3.out.cell 1 3 (w.heap.size + 1) _ _ _ rfl rfl rfl
    have t4 := HG3.out.cell 1 4 (w.heap.size + 1) _ _ _ rfl rfl rfl
    go_wp2_with fail
    go_ret
    exact ⟨rfl, HG3.out.2.2⟩
  · rw [h1] at HCk
    clear h1
    go_enter Try.func3, Try.ntmps3
    go_wp2_with fail
    refine (mergeBegun_any _).mono ?_
    rintro e w1 ⟨rfl, hb⟩
    have HG1 := hide (HG.out.on hb)
    clear hb HG
    go_wp2_with fail
    refine (ledgerBegun_any _).mono ?_
    rintro e w2 ⟨rfl, hb⟩
    have HG2 := hide (HG1.out.on hb)
    clear hb HG1
    have l0 := HG2.out.cell 0 0 w.heap.size _ _ _ rfl rfl rfl
    have l1 := HG2.out.cell 0 1 w.heap.size _ _ _ rfl rfl rfl
    have l2 := HG2.out.cell 0 2 w.heap.size _ _ _ rfl rfl rfl
    go_wp2_with fail
    refine (HCk.out _ (HLed.out.below HG2.out.2.2)).mono ?_
    rintro e w3 ⟨rfl, hb⟩
    have HG3 := hide (HG2.out.on hb)
    clear hb HG2 l0 l1 l2
    have l0 := HG3.out.cell 0 0 w.heap.size _ _ _ rfl rfl rfl
    have l1 := HG3.out.cell 0 1 w.heap.size _ _ _ rfl rfl rfl
    have l2 := HG3.out.cell 0 2 w.heap.size _ _ _ rfl rfl rfl
    have t0 := HG3.out.cell 1 0 (w.heap.size + 1) _ _ _ rfl rfl rfl
    have t1 := HG3.out.cell 1 1 (w.heap.size + 1) _ _ _ rfl rfl rfl
    have t2 := HG3.out.cell 1 2 (w.heap.size + 1) _ _ _ rfl rfl rfl
    have t3 := HG3.out.cell 1 3 (w.heap.size + 1) _ _ _ rfl rfl rfl
    have t4 := HG3.out.cell 1 4 (w.heap.size + 1) _ _ _ rfl rfl rfl
    go_wp2_with fail
    go_ret
    exact ⟨rfl, HG3.out.2.2⟩
  · rw [h1] at HCk
    clear h1
    go_enter Try.func3, Try.ntmps3
    go_wp2_with fail
    refine (mergeBegun_any _).mono ?_
    rintro e w1 ⟨rfl, hb⟩
    have HG1 := hide (HG.out.on hb)
    clear hb HG
    go_wp2_with fail
    refine (ledgerBegun_any _).mono ?_
    rintro e w2 ⟨rfl, hb⟩
    have HG2 := hide (HG1.out.on hb)
    clear hb HG1
    have l0 := HG2.out.cell 0 0 w.heap.size _ _ _ rfl rfl rfl
    have l1 := HG2.out.cell 0 1 w.heap.size _ _ _ rfl rfl rfl
    have l2 := HG2.out.cell 0 2 w.heap.size _ _ _ rfl rfl rfl
    go_wp2_with fail
    refine (HCk.out _ (HLed.out.below HG2.out.2.2)).mono ?_
    rintro e w3 ⟨rfl, hb⟩
    have HG3 := hide (HG2.out.on hb)
    clear hb HG2 l0 l1 l2
    have l0 := HG3.out.cell 0 0 w.heap.size _ _ _ rfl rfl rfl
    have l1 := HG3.out.cell 0 1 w.heap.size _ _ _ rfl rfl rfl
    have l2 := HG3.out.cell 0 2 w.heap.size _ _ _ rfl rfl rfl
    have t0 := HG3.out.cell 1 0 (w.heap.size + 1) _ _ _ rfl rfl rfl
    have t1 := HG3.out.cell 1 1 (w.heap.size + 1) _ _ _ rfl rfl rfl
    have t2 := HG3.out.cell 1 2 (w.heap.size + 1) _ _ _ rfl rfl rfl
    have t3 := HG3.out.cell 1 3 (w.heap.size + 1) _ _ _ rfl rfl rfl
    have t4 := HG3.out.cell 1 4 (w.heap.size + 1) _ _ _ rfl rfl rfl
    go_wp2_with fail
    go_ret
    exact ⟨rfl, HG3.out.2.2⟩
  · rw [h1] at HCk
    clear h1
    go_enter Try.func3, Try.ntmps3
    go_wp2_with fail
    refine (mergeBegun_any _).mono ?_
    rintro e w1 ⟨rfl, hb⟩
    have HG1 := hide (HG.out.on hb)
    clear hb HG
    go_wp2_with fail
    refine (ledgerBegun_any _).mono ?_
    rintro e w2 ⟨rfl, hb⟩
    have HG2 := hide (HG1.out.on hb)
    clear hb HG1
    have l0 := HG2.out.cell 0 0 w.heap.size _ _ _ rfl rfl rfl
    have l1 := HG2.out.cell 0 1 w.heap.size _ _ _ rfl rfl rfl
    have l2 := HG2.out.cell 0 2 w.heap.size _ _ _ rfl rfl rfl
    go_wp2_with fail
    refine (HCk.out _ (HLed.out.below HG2.out.2.2)).mono ?_
    rintro e w3 ⟨rfl, hb⟩
    have HG3 := hide (HG2.out.on hb)
    clear hb HG2 l0 l1 l2
    have l0 := HG3.out.cell 0 0 w.heap.size _ _ _ rfl rfl rfl
    have l1 := HG3.out.cell 0 1 w.heap.size _ _ _ rfl rfl rfl
    have l2 := HG3.out.cell 0 2 w.heap.size _ _ _ rfl rfl rfl
    have t0 := HG3.out.cell 1 0 (w.heap.size + 1) _ _ _ rfl rfl rfl
    have t1 := HG3.out.cell 1 1 (w.heap.size + 1) _ _ _ rfl rfl rfl
    have t2 := HG3.out.cell 1 2 (w.heap.size + 1) _ _ _ rfl rfl rfl
    have t3 := HG3.out.cell 1 3 (w.heap.size + 1) _ _ _ rfl rfl rfl
    have t4 := HG3.out.cell 1 4 (w.heap.size + 1) _ _ _ rfl rfl rfl
    go_wp2_with fail
    refine (checkTap_any _ _ _ _ _ _).mono ?_
    rintro e w4 ⟨rfl, hb⟩
    have HG4 := hide (HG3.out.on hb)
    clear hb HG3 l0 l1 l2 t0 t1 t2 t3 t4
    generalize chkP a g s m z = E at *
    go_wp2_with fail
    go_ret
    exact ⟨rfl, HG4.out.2.2⟩
  · have HCh := hide h1
    have HPc := hide h4
    rw [h1] at HCk
    obtain ⟨k, rfl⟩ : ∃ k : Nat, n = k := ⟨n.toNat, by omega⟩
    have hk : k < P.length := by omega
    obtain ⟨q, hq⟩ : ∃ q, P[k]? = some q := ⟨P[k], by simp [hk]⟩
    obtain ⟨A, hA, -⟩ := HLed.out.parts3.2.1.eqs.2.1 k q hq
    subst hA
    have HQ := hide hq
    clear h1 hq h2
    go_enter Try.func3, Try.ntmps3
    go_wp2_with fail
    refine (mergeBegun_any _).mono ?_
    rintro e w1 ⟨rfl, hb⟩
    have HG1 := hide (HG.out.on hb)
    clear hb HG
    go_wp2_with fail
    refine (ledgerBegun_any _).mono ?_
    rintro e w2 ⟨rfl, hb⟩
    have HG2 := hide (HG1.out.on hb)
    clear hb HG1
    have l0 := HG2.out.cell 0 0 w.heap.size _ _ _ rfl rfl rfl
    have l1 := HG2.out.cell 0 1 w.heap.size _ _ _ rfl rfl rfl
    have l2 := HG2.out.cell 0 2 w.heap.size _ _ _ rfl rfl rfl
    go_wp2_with fail
    refine (HCk.out _ (HLed.out.below HG2.out.2.2)).mono ?_
    rintro e w3 ⟨rfl, hb⟩
    have HG3 := hide (HG2.out.on hb)
    clear hb HG2 l0 l1 l2
    have l0 := HG3.out.cell 0 0 w.heap.size _ _ _ rfl rfl rfl
    have l1 := HG3.out.cell 0 1 w.heap.size _ _ _ rfl rfl rfl
    have l2 := HG3.out.cell 0 2 w.heap.size _ _ _ rfl rfl rfl
    have t0 := HG3.out.cell 1 0 (w.heap.size + 1) _ _ _ rfl rfl rfl
    have t1 := HG3.out.cell 1 1 (w.heap.size + 1) _ _ _ rfl rfl rfl
    have t2 := HG3.out.cell 1 2 (w.heap.size + 1) _ _ _ rfl rfl rfl
    have t3 := HG3.out.cell 1 3 (w.heap.size + 1) _ _ _ rfl rfl rfl
    have t4 := HG3.out.cell 1 4 (w.heap.size + 1) _ _ _ rfl rfl rfl
    go_wp2_with fail
    refine (checkTap_any _ _ _ _ _ _).mono ?_
    rintro e w4 ⟨rfl, hb⟩
    have HG4 := hide (HG3.out.on hb)
    clear hb HG3 l0 l1 l2 t0 t1 t2 t3 t4
    rw [h4]
    clear h4
    have l0 := HG4.out.cell 0 0 w.heap.size _ _ _ rfl rfl rfl
    have l1 := HG4.out.cell 0 1 w.heap.size _ _ _ rfl rfl rfl
    have l2 := HG4.out.cell 0 2 w.heap.size _ _ _ rfl rfl rfl
    have lt := HG4.out.lt 1 (w.heap.size + 1) (by simp) rfl
    have t1 := HG4.out.cell 1 1 (w.heap.size + 1) _ _ _ rfl rfl rfl
    have t2 := HG4.out.cell 1 2 (w.heap.size + 1) _ _ _ rfl rfl rfl
    have f1 := HG4.out.frozen 1 1 (w.heap.size + 1) _ _ rfl rfl
    have f2 := HG4.out.frozen 1 2 (w.heap.size + 1) _ _ rfl rfl
    obtain ⟨c0, c1', c2', c3', c4'⟩ : Tap5 w4 (A.add (k * 5)) q := by
      obtain ⟨b, e, h5⟩ := (HLed.out.below HG4.out.2.2).parts3.2.1.eqs.2.1 k q HQ.out
      cases e
      exact h5
    have hAb : A.block < w.heap.size := taps_lt HLed.out.parts3.2.1.eqs.2.1 A rfl (by intro h; have := HQ.out; simp [h] at this)
    have hn1 : ¬ A.block = w.heap.size + 1 := by omega
    have hn2 : ¬ w.heap.size + 1 = A.block := by omega
    go_wp2_with fail
    go_region
    have hr0 := HG4.out.1 0 _ rfl
    have hr1 := HG4.out.1 1 _ rfl
    have HG5 : Hid (Blks w ((w4.setCell ⟨w.heap.size + 1, 1, none⟩ (.int .i64 q.g)).setCell ⟨w.heap.size + 1, 2, none⟩ (.int .i64 q.s)).drew [.cells #[.slice o1 T.length c1, .slice (some A) P.length c2, .slice o3 V.length c3] 26, .cells #[.int .i64 a, .int .i64 q.g, .int .i64 q.s, .int .i64 m, .int .i64 z] 28]) := by
      refine hide ⟨fun i o hi => ?_, ?_, ?_⟩
      · match i, hi with
        | 0, hi =>
          simp at hi
          subst hi
          refine ((heap_setCell_other _ _ _ _ (by simp)).trans (heap_setCell_other _ _ _ _ (by simp))).trans hr0
        | 1, hi =>
          simp at hi
          subst hi
          exact heap_setCell_same _ _ 2 _ _ _ (heap_setCell_same _ _ 1 _ _ _ hr1)
      · have := HG4.out.2.1
        simpa using this
      · exact ((HG4.out.2.2.setCell (p := ⟨w.heap.size + 1, 1, none⟩) (by simp) _).setCell (p := ⟨w.heap.size + 1, 2, none⟩) (by simp) _).drew
    clear hr0 hr1 HG4 l0 l1 l2 lt t1 t2 f1 f2 c0 c1' c2' c3' c4'
    generalize ((w4.setCell ⟨w.heap.size + 1, 1, none⟩ (.int .i64 q.g)).setCell ⟨w.heap.size + 1, 2, none⟩ (.int .i64 q.s)).drew = w5 at *
    have l0 := HG5.out.cell 0 0 w.heap.size _ _ _ rfl rfl rfl
    have l1 := HG5.out.cell 0 1 w.heap.size _ _ _ rfl rfl rfl
    have l2 := HG5.out.cell 0 2 w.heap.size _ _ _ rfl rfl rfl
    obtain ⟨c0, c1', c2', c3', c4'⟩ : Tap5 w5 (A.add (k * 5)) q := by
      obtain ⟨b, e, h5⟩ := (HLed.out.below HG5.out.2.2).parts3.2.1.eqs.2.1 k q HQ.out
      cases e
      exact h5
    have lz := HG5.out.lt 1 (w.heap.size + 1) (by simp) rfl
    have hA5 : (A.add (k * 5)).block < w5.heap.size := by rw [addr_blk]; omega
    have hA6 : ¬ (A.add (k * 5)).block = w5.heap.size := by omega
    have hA7 : ¬ w5.heap.size = (A.add (k * 5)).block := by omega
    have HL5 := hide (HLed.out.below HG5.out.2.2)
    have HI1 := hide (fun W b (h : LedV W (lg o1 (some A) o3 T.length c1 P.length c2 V.length c3) T P V) (h' : TapsAt W (some b) [q]) => into_any T P V [q] o1 (some A) o3 (some b) c1 c2 c3 1 W h hl h' (by simp) (by simp))
    have hi6 := once_into HCh.out HQ.out (errP_all_chk (chkL_right HCh.out).2.2.2.2 q (List.mem_of_getElem? HQ.out)) rfl rfl
    obtain ⟨e1, e2, e3, e4⟩ := into_err (T := T) (P := P) (V := V) (M := [q]) (by rw [hi6]; decide)
    rw [hi6, e1, e2, e3, e4] at HI1
    clear hi6 e1 e2 e3 e4
    go_wp2_with fail
    clear l0 l1 l2 c0 c1' c2' c3' c4' hA5 hA6 hA7 lz hn1 hn2
    refine wp_region_reads (fun w' => Blks w w' [.cells #[.slice o1 T.length c1, .slice (some A) P.length c2, .slice o3 V.length c3] 26, .cells #[.int .i64 a, .int .i64 q.g, .int .i64 q.s, .int .i64 m, .int .i64 z] 28]) [0, 1, 2, 3, 4, 5] 10 (by rfl) (by kernel_rfl) (by kernel_rfl) (by kernel_rfl) (fun c d v a w h => by cases d <;> exact h) ?_ ?_
    · exact HG5.out.on (Below.refl _ _).drew
    refine wpPureH_step (lg o1 (some A) o3 T.length c1 P.length c2 V.length c3) rfl rfl (fun w' hS => ?_) ?_
    · have x0 := hS.cell 0 0 w.heap.size _ _ _ rfl rfl rfl
      have x1 := hS.cell 0 1 w.heap.size _ _ _ rfl rfl rfl
      have x2 := hS.cell 0 2 w.heap.size _ _ _ rfl rfl rfl
      go_simp
    refine wpPureH_step (.pointer (some ⟨w.heap.size, 1, none⟩)) rfl rfl (fun w' hS => ?_) ?_
    · go_simp
    refine wpPureH_step (.slice (some A) P.length c2) rfl rfl (fun w' hS => ?_) ?_
    · have x0 := hS.cell 0 0 w.heap.size _ _ _ rfl rfl rfl
      have x1 := hS.cell 0 1 w.heap.size _ _ _ rfl rfl rfl
      have x2 := hS.cell 0 2 w.heap.size _ _ _ rfl rfl rfl
      go_simp
    refine wpPureH_step (.int .i64 (k : Int)) rfl rfl (fun w' hS => ?_) ?_
    · go_simp
    refine wpPureH_step (.pointer (some (A.add (k * 5)))) rfl rfl (fun w' hS => ?_) ?_
    · go_simp
    refine wpPureH_step (tp q.a q.g q.s q.m q.z) rfl rfl (fun w' hS => ?_) ?_
    · obtain ⟨c0, c1', c2', c3', c4'⟩ : Tap5 w' (A.add (k * 5)) q := by
        obtain ⟨b, e, h5⟩ := (HLed.out.below hS.2.2).parts3.2.1.eqs.2.1 k q HQ.out
        cases e
        exact h5
      go_simp
    refine wpPureH_nil ?_
    have HGd := hide (HG5.out.on (Below.refl _ _).drew)
    clear HG5 HL5
    generalize w5.drew = wd at *
    refine two_readyH (i := 6) (j := 12) (by kernel_rfl) rfl rfl rfl rfl (fun K hK => ?_) (fun K hK => ?_)
    · go_simp
      have hbd := (Below.refl wd.heap.size wd).alloc (Nat.le_refl _) (cP q.a q.g q.s q.m q.z 28)
      have HT6 : Hid (Tap5 (wd.alloc (cP q.a q.g q.s q.m q.z 28)) ⟨wd.heap.size, 0, none⟩ q) := hide ⟨by simp [go_sem], by simp [go_sem], by simp [go_sem], by simp [go_sem], by simp [go_sem]⟩
      have HGdx := hide (HGd.out.on hbd)
      refine hK _ _ HGdx.out ?_
      clear hK K hbd HGd
      generalize wd.alloc (cP q.a q.g q.s q.m q.z 28) = wt at *
      generalize wd.heap.size = bt at *
      refine two_readyH (i := 7) (j := 12) (by kernel_rfl) rfl rfl rfl rfl (fun K hK => ?_) (fun K hK => ?_)
      · go_simp
        refine (HI1.out _ _ (HLed.out.below HGdx.out.2.2) (tapsAt_one HT6.out)).mono ?_
        rintro e w6 ⟨⟨lv, od, nd, cd, rfl, ⟨v1, v2, v3, rfl, ⟨⟨a1, x1, rfl, -, -⟩, -⟩, ⟨⟨a2, x2, rfl, -, -⟩, -⟩, ⟨⟨a3, x3, rfl, -, -⟩, -⟩⟩, -, -⟩, hbd⟩
        have HGdxy := hide (HGdx.out.on hbd)
        refine hK _ _ HGdxy.out ?_
        clear hK K hbd HGdx HT6
        refine takesH (fuel := 4) (by kernel_rfl) (fun c d v a w h => by cases d <;> exact h) HGdxy.out [8, 9, 10, 11] _ _ (by kernel_rfl) ?_
        refine wpPureH_step (.tuple #[lg a1 a2 a3 0 x1 0 x2 0 x3, .slice od nd cd, .int .i64 6]) rfl rfl (fun w' _ => by go_simp) ?_
        refine wpPureH_step (lg a1 a2 a3 0 x1 0 x2 0 x3) rfl rfl (fun w' _ => by go_simp) ?_
        refine wpPureH_step (.slice od nd cd) rfl rfl (fun w' _ => by go_simp) ?_
        refine wpPureH_step (.int .i64 6) rfl rfl (fun w' _ => by go_simp) ?_
        refine wpPureH_nil ?_
        refine one_readyH (i := 12) (by kernel_rfl) rfl rfl (fun K hK => ?_)
        go_simp
        have hbd := (Below.refl w6.heap.size w6).alloc (Nat.le_refl _) (cL none none none 0 0 0 0 0 0 26)
        have hrow : (w6.alloc (cL none none none 0 0 0 0 0 0 26)).heap[w6.heap.size]? = some (cL none none none 0 0 0 0 0 0 26) := heap_alloc_new' _ _ _ rfl
        have hbz := HGdxy.out.2.1
        have HGdxyz := hide (HGdxy.out.on hbd)
        refine hK _ _ HGdxyz.out ?_
        clear hK K hbd HGdxy
        generalize w6.alloc (cL none none none 0 0 0 0 0 0 26) = wz at *
        generalize w6.heap.size = bz at *
        simp only [List.length_cons, List.length_nil] at hbz
        have r0 := cell_of_row wz _ 0 _ _ _ hrow
        have r1 := cell_of_row wz _ 1 _ _ _ hrow
        have r2 := cell_of_row wz _ 2 _ _ _ hrow
        have s0 := frozen_of_row wz _ 0 _ _ hrow
        have s1 := frozen_of_row wz _ 1 _ _ hrow
        have s2 := frozen_of_row wz _ 2 _ _ hrow
        simp at r0 r1 r2
        clear hrow
        refine one_readyH (i := 13) (by kernel_rfl) rfl rfl (fun K hK => ?_)
        go_simp
        have HG6 := hide (((HGdxyz.out.set ⟨bz, 0, none⟩ (by simpa using hbz) (.slice a1 0 x1)).set ⟨bz, 1, none⟩ (by simpa using hbz) (.slice a2 0 x2)).set ⟨bz, 2, none⟩ (by simpa using hbz) (.slice a3 0 x3))
        refine hK _ _ HG6.out ?_
        clear hK K HGdxyz r0 r1 r2 s0 s1 s2
        generalize ((wz.setCell ⟨bz, 0, none⟩ (.slice a1 0 x1)).setCell ⟨bz, 1, none⟩ (.slice a2 0 x2)).setCell ⟨bz, 2, none⟩ (.slice a3 0 x3) = wg at *
        refine one_readyH (i := 14) (by kernel_rfl) rfl rfl (fun K hK => ?_)
        go_simp
        refine hK _ _ HG6.out ?_
        clear hK K
        refine one_readyH (i := 15) (by kernel_rfl) rfl rfl (fun K hK => ?_)
        go_simp
        refine hK _ _ HG6.out ?_
        clear hK K
        refine wpAnyH_done (by kernel_rfl) ?_ _
        have HI2 := hide (fun W b (h : LedV W (lg o1 (some A) o3 T.length c1 P.length c2 V.length c3) T P V) (h' : TapsAt W (some b) [(⟨a, q.g, q.s, m, z⟩ : TP)]) => into_any T P V [(⟨a, q.g, q.s, m, z⟩ : TP)] o1 (some A) o3 (some b) c1 c2 c3 1 W h hl h' (by simp) (by simp))
        have hch := once_chk HPc.out (errP_all_chk (chkL_right HCh.out).2.2.2.2 q (List.mem_of_getElem? HQ.out))
        have hi6 := once_into (p := (⟨a, q.g, q.s, m, z⟩ : TP)) HCh.out HQ.out hch rfl rfl
        obtain ⟨e1, e2, e3, e4⟩ := into_err (T := T) (P := P) (V := V) (M := [(⟨a, q.g, q.s, m, z⟩ : TP)]) (by rw [hi6]; decide)
        rw [hi6, e1, e2, e3, e4] at HI2
        have HE := hide (once_enter (p := (⟨a, q.g, q.s, m, z⟩ : TP)) HCh.out HQ.out hch rfl rfl)
        clear hi6 e1 e2 e3 e4 hch HI1
        have l0 := HG6.out.cell 0 0 w.heap.size _ _ _ rfl rfl rfl
        have l1 := HG6.out.cell 0 1 w.heap.size _ _ _ rfl rfl rfl
        have l2 := HG6.out.cell 0 2 w.heap.size _ _ _ rfl rfl rfl
        have t0 := HG6.out.cell 1 0 (w.heap.size + 1) _ _ _ rfl rfl rfl
        have t1 := HG6.out.cell 1 1 (w.heap.size + 1) _ _ _ rfl rfl rfl
        have t2 := HG6.out.cell 1 2 (w.heap.size + 1) _ _ _ rfl rfl rfl
        have t3 := HG6.out.cell 1 3 (w.heap.size + 1) _ _ _ rfl rfl rfl
        have t4 := HG6.out.cell 1 4 (w.heap.size + 1) _ _ _ rfl rfl rfl
        go_wp2_with fail
        refine (HI2.out _ _ (HLed.out.below (HG6.out.2.2.alloc HG6.out.2.2.size _)) (tapsAt_one ⟨by simp [go_sem], by simp [go_sem], by simp [go_sem], by simp [go_sem], by simp [go_sem]⟩)).mono ?_
        rintro e w7 ⟨⟨lv, od2, nd2, cd2, rfl, ⟨v1, v2, v3, rfl, ⟨⟨b1, y1, rfl, -, -⟩, -⟩, ⟨⟨b2, y2, rfl, -, -⟩, -⟩, ⟨⟨b3, y3, rfl, -, -⟩, -⟩⟩, -, -⟩, hbd⟩
        have HG7 := hide ((HG6.out.on ((Below.refl _ _).alloc (Nat.le_refl _) _)).on hbd)
        clear hbd HG6 l0 l1 l2 t0 t1 t2 t3 t4 HI2
        have HG8 := hide (HG7.out.on ((Below.refl w7.heap.size w7).alloc (Nat.le_refl _) (cL b1 b2 b3 0 y1 0 y2 0 y3 26)))
        have l0 := HG7.out.cell 0 0 w.heap.size _ _ _ rfl rfl rfl
        have l1 := HG7.out.cell 0 1 w.heap.size _ _ _ rfl rfl rfl
        have l2 := HG7.out.cell 0 2 w.heap.size _ _ _ rfl rfl rfl
        have t0 := HG7.out.cell 1 0 (w.heap.size + 1) _ _ _ rfl rfl rfl
        have t1 := HG7.out.cell 1 1 (w.heap.size + 1) _ _ _ rfl rfl rfl
        have t2 := HG7.out.cell 1 2 (w.heap.size + 1) _ _ _ rfl rfl rfl
        have t3 := HG7.out.cell 1 3 (w.heap.size + 1) _ _ _ rfl rfl rfl
        have t4 := HG7.out.cell 1 4 (w.heap.size + 1) _ _ _ rfl rfl rfl
        have lt0 := HG7.out.lt 0 w.heap.size (by simp) rfl
        have lt1 := HG7.out.lt 1 (w.heap.size + 1) (by simp) rfl
        go_wp2_with fail
        refine (enterVv (HLed.out.below HG8.out.2.2) hl _ _ _ _ _).mono ?_
        rintro e w9 ⟨⟨ve, rfl, hve⟩, hbd⟩
        obtain ⟨f1, g1, f2, g2, f3, g3, rfl, -⟩ := hve.opened
        have HB9 := hide (HG8.out.2.2.trans (hbd.mono HG8.out.2.2.size))
        clear hve hbd l0 l1 l2 t0 t1 t2 t3 t4
        generalize (enterV T P V ⟨a, q.g, q.s, m, z⟩).2 = EE at *
        rcases HE.out with rfl | rfl
        · go_wp2_with fail
          go_ret
          exact ⟨rfl, HB9.out.alloc HB9.out.size _⟩
        · go_wp2_with fail
          go_ret
          exact ⟨rfl, HB9.out.alloc HB9.out.size _⟩
      · go_simp
        have hbd := (Below.refl wt.heap.size wt).alloc (Nat.le_refl _) (cL none none none 0 0 0 0 0 0 26)
        have hrow : (wt.alloc (cL none none none 0 0 0 0 0 0 26)).heap[wt.heap.size]? = some (cL none none none 0 0 0 0 0 0 26) := heap_alloc_new' _ _ _ rfl
        have hbz := HGdx.out.2.1
        have HGdxz := hide (HGdx.out.on hbd)
        have HT6 := hide (HT6.out.below hbd HT6.out.lt)
        refine hK _ _ HGdxz.out ?_
        clear hK K hbd HGdx
        generalize wt.alloc (cL none none none 0 0 0 0 0 0 26) = wz at *
        generalize wt.heap.size = bz at *
        simp only [List.length_cons, List.length_nil] at hbz
        refine one_readyH (i := 7) (by kernel_rfl) rfl rfl (fun K hK => ?_)
        go_simp
        refine (HI1.out _ _ (HLed.out.below HGdxz.out.2.2) (tapsAt_one HT6.out)).mono ?_
        rintro e w6 ⟨⟨lv, od, nd, cd, rfl, ⟨v1, v2, v3, rfl, ⟨⟨a1, x1, rfl, -, -⟩, -⟩, ⟨⟨a2, x2, rfl, -, -⟩, -⟩, ⟨⟨a3, x3, rfl, -, -⟩, -⟩⟩, -, -⟩, hbd⟩
        have HGdxzy := hide (HGdxz.out.on hbd)
        have hrow := row_on hrow hbd
        refine hK _ _ HGdxzy.out ?_
        clear hK K hbd HGdxz HT6
        refine takesH (fuel := 3) (by kernel_rfl) (fun c d v a w h => by cases d <;> exact h) HGdxzy.out [8, 9, 10, 11] _ _ (by kernel_rfl) ?_
        refine wpPureH_step (.tuple #[lg a1 a2 a3 0 x1 0 x2 0 x3, .slice od nd cd, .int .i64 6]) rfl rfl (fun w' _ => by go_simp) ?_
        refine wpPureH_step (lg a1 a2 a3 0 x1 0 x2 0 x3) rfl rfl (fun w' _ => by go_simp) ?_
        refine wpPureH_step (.slice od nd cd) rfl rfl (fun w' _ => by go_simp) ?_
        refine wpPureH_step (.int .i64 6) rfl rfl (fun w' _ => by go_simp) ?_
        refine wpPureH_nil ?_
        have r0 := cell_of_row w6 _ 0 _ _ _ hrow
        have r1 := cell_of_row w6 _ 1 _ _ _ hrow
        have r2 := cell_of_row w6 _ 2 _ _ _ hrow
        have s0 := frozen_of_row w6 _ 0 _ _ hrow
        have s1 := frozen_of_row w6 _ 1 _ _ hrow
        have s2 := frozen_of_row w6 _ 2 _ _ hrow
        simp at r0 r1 r2
        clear hrow
        refine one_readyH (i := 13) (by kernel_rfl) rfl rfl (fun K hK => ?_)
        go_simp
        have HG6 := hide (((HGdxzy.out.set ⟨bz, 0, none⟩ (by simpa using hbz) (.slice a1 0 x1)).set ⟨bz, 1, none⟩ (by simpa using hbz) (.slice a2 0 x2)).set ⟨bz, 2, none⟩ (by simpa using hbz) (.slice a3 0 x3))
        refine hK _ _ HG6.out ?_
        clear hK K HGdxzy r0 r1 r2 s0 s1 s2
        generalize ((w6.setCell ⟨bz, 0, none⟩ (.slice a1 0 x1)).setCell ⟨bz, 1, none⟩ (.slice a2 0 x2)).setCell ⟨bz, 2, none⟩ (.slice a3 0 x3) = wg at *
        refine one_readyH (i := 14) (by kernel_rfl) rfl rfl (fun K hK => ?_)
        go_simp
        refine hK _ _ HG6.out ?_
        clear hK K
        refine one_readyH (i := 15) (by kernel_rfl) rfl rfl (fun K hK => ?_)
        go_simp
        refine hK _ _ HG6.out ?_
        clear hK K
        refine wpAnyH_done (by kernel_rfl) ?_ _
        have HI2 := hide (fun W b (h : LedV W (lg o1 (some A) o3 T.length c1 P.length c2 V.length c3) T P V) (h' : TapsAt W (some b) [(⟨a, q.g, q.s, m, z⟩ : TP)]) => into_any T P V [(⟨a, q.g, q.s, m, z⟩ : TP)] o1 (some A) o3 (some b) c1 c2 c3 1 W h hl h' (by simp) (by simp))
        have hch := once_chk HPc.out (errP_all_chk (chkL_right HCh.out).2.2.2.2 q (List.mem_of_getElem? HQ.out))
        have hi6 := once_into (p := (⟨a, q.g, q.s, m, z⟩ : TP)) HCh.out HQ.out hch rfl rfl
        obtain ⟨e1, e2, e3, e4⟩ := into_err (T := T) (P := P) (V := V) (M := [(⟨a, q.g, q.s, m, z⟩ : TP)]) (by rw [hi6]; decide)
        rw [hi6, e1, e2, e3, e4] at HI2
        have HE := hide (once_enter (p := (⟨a, q.g, q.s, m, z⟩ : TP)) HCh.out HQ.out hch rfl rfl)
        clear hi6 e1 e2 e3 e4 hch HI1
        have l0 := HG6.out.cell 0 0 w.heap.size _ _ _ rfl rfl rfl
        have l1 := HG6.out.cell 0 1 w.heap.size _ _ _ rfl rfl rfl
        have l2 := HG6.out.cell 0 2 w.heap.size _ _ _ rfl rfl rfl
        have t0 := HG6.out.cell 1 0 (w.heap.size + 1) _ _ _ rfl rfl rfl
        have t1 := HG6.out.cell 1 1 (w.heap.size + 1) _ _ _ rfl rfl rfl
        have t2 := HG6.out.cell 1 2 (w.heap.size + 1) _ _ _ rfl rfl rfl
        have t3 := HG6.out.cell 1 3 (w.heap.size + 1) _ _ _ rfl rfl rfl
        have t4 := HG6.out.cell 1 4 (w.heap.size + 1) _ _ _ rfl rfl rfl
        go_wp2_with fail
        refine (HI2.out _ _ (HLed.out.below (HG6.out.2.2.alloc HG6.out.2.2.size _)) (tapsAt_one ⟨by simp [go_sem], by simp [go_sem], by simp [go_sem], by simp [go_sem], by simp [go_sem]⟩)).mono ?_
        rintro e w7 ⟨⟨lv, od2, nd2, cd2, rfl, ⟨v1, v2, v3, rfl, ⟨⟨b1, y1, rfl, -, -⟩, -⟩, ⟨⟨b2, y2, rfl, -, -⟩, -⟩, ⟨⟨b3, y3, rfl, -, -⟩, -⟩⟩, -, -⟩, hbd⟩
        have HG7 := hide ((HG6.out.on ((Below.refl _ _).alloc (Nat.le_refl _) _)).on hbd)
        clear hbd HG6 l0 l1 l2 t0 t1 t2 t3 t4 HI2
        have HG8 := hide (HG7.out.on ((Below.refl w7.heap.size w7).alloc (Nat.le_refl _) (cL b1 b2 b3 0 y1 0 y2 0 y3 26)))
        have l0 := HG7.out.cell 0 0 w.heap.size _ _ _ rfl rfl rfl
        have l1 := HG7.out.cell 0 1 w.heap.size _ _ _ rfl rfl rfl
        have l2 := HG7.out.cell 0 2 w.heap.size _ _ _ rfl rfl rfl
        have t0 := HG7.out.cell 1 0 (w.heap.size + 1) _ _ _ rfl rfl rfl
        have t1 := HG7.out.cell 1 1 (w.heap.size + 1) _ _ _ rfl rfl rfl
        have t2 := HG7.out.cell 1 2 (w.heap.size + 1) _ _ _ rfl rfl rfl
        have t3 := HG7.out.cell 1 3 (w.heap.size + 1) _ _ _ rfl rfl rfl
        have t4 := HG7.out.cell 1 4 (w.heap.size + 1) _ _ _ rfl rfl rfl
        have lt0 := HG7.out.lt 0 w.heap.size (by simp) rfl
        have lt1 := HG7.out.lt 1 (w.heap.size + 1) (by simp) rfl
        go_wp2_with fail
        refine (enterVv (HLed.out.below HG8.out.2.2) hl _ _ _ _ _).mono ?_
        rintro e w9 ⟨⟨ve, rfl, hve⟩, hbd⟩
        obtain ⟨f1, g1, f2, g2, f3, g3, rfl, -⟩ := hve.opened
        have HB9 := hide (HG8.out.2.2.trans (hbd.mono HG8.out.2.2.size))
        clear hve hbd l0 l1 l2 t0 t1 t2 t3 t4
        generalize (enterV T P V ⟨a, q.g, q.s, m, z⟩).2 = EE at *
        rcases HE.out with rfl | rfl
        · go_wp2_with fail
          go_ret
          exact ⟨rfl, HB9.out.alloc HB9.out.size _⟩
        · go_wp2_with fail
          go_ret
          exact ⟨rfl, HB9.out.alloc HB9.out.size _⟩
    · go_simp
      have hbd := (Below.refl wd.heap.size wd).alloc (Nat.le_refl _) (cL none none none 0 0 0 0 0 0 26)
      have hrow : (wd.alloc (cL none none none 0 0 0 0 0 0 26)).heap[wd.heap.size]? = some (cL none none none 0 0 0 0 0 0 26) := heap_alloc_new' _ _ _ rfl
      have hbz := HGd.out.2.1
      have HGdz := hide (HGd.out.on hbd)
      refine hK _ _ HGdz.out ?_
      clear hK K hbd HGd
      generalize wd.alloc (cL none none none 0 0 0 0 0 0 26) = wz at *
      generalize wd.heap.size = bz at *
      simp only [List.length_cons, List.length_nil] at hbz
      refine one_readyH (i := 6) (by kernel_rfl) rfl rfl (fun K hK => ?_)
      go_simp
      have hbd := (Below.refl wz.heap.size wz).alloc (Nat.le_refl _) (cP q.a q.g q.s q.m q.z 28)
      have HT6 : Hid (Tap5 (wz.alloc (cP q.a q.g q.s q.m q.z 28)) ⟨wz.heap.size, 0, none⟩ q) := hide ⟨by simp [go_sem], by simp [go_sem], by simp [go_sem], by simp [go_sem], by simp [go_sem]⟩
      have HGdzx := hide (HGdz.out.on hbd)
      have hrow := row_on hrow hbd
      refine hK _ _ HGdzx.out ?_
      clear hK K hbd HGdz
      generalize wz.alloc (cP q.a q.g q.s q.m q.z 28) = wt at *
      generalize wz.heap.size = bt at *
      refine one_readyH (i := 7) (by kernel_rfl) rfl rfl (fun K hK => ?_)
      go_simp
      refine (HI1.out _ _ (HLed.out.below HGdzx.out.2.2) (tapsAt_one HT6.out)).mono ?_
      rintro e w6 ⟨⟨lv, od, nd, cd, rfl, ⟨v1, v2, v3, rfl, ⟨⟨a1, x1, rfl, -, -⟩, -⟩, ⟨⟨a2, x2, rfl, -, -⟩, -⟩, ⟨⟨a3, x3, rfl, -, -⟩, -⟩⟩, -, -⟩, hbd⟩
      have HGdzxy := hide (HGdzx.out.on hbd)
      have hrow := row_on hrow hbd
      refine hK _ _ HGdzxy.out ?_
      clear hK K hbd HGdzx HT6
      refine takesH (fuel := 3) (by kernel_rfl) (fun c d v a w h => by cases d <;> exact h) HGdzxy.out [8, 9, 10, 11] _ _ (by kernel_rfl) ?_
      refine wpPureH_step (.tuple #[lg a1 a2 a3 0 x1 0 x2 0 x3, .slice od nd cd, .int .i64 6]) rfl rfl (fun w' _ => by go_simp) ?_
      refine wpPureH_step (lg a1 a2 a3 0 x1 0 x2 0 x3) rfl rfl (fun w' _ => by go_simp) ?_
      refine wpPureH_step (.slice od nd cd) rfl rfl (fun w' _ => by go_simp) ?_
      refine wpPureH_step (.int .i64 6) rfl rfl (fun w' _ => by go_simp) ?_
      refine wpPureH_nil ?_
      have r0 := cell_of_row w6 _ 0 _ _ _ hrow
      have r1 := cell_of_row w6 _ 1 _ _ _ hrow
      have r2 := cell_of_row w6 _ 2 _ _ _ hrow
      have s0 := frozen_of_row w6 _ 0 _ _ hrow
      have s1 := frozen_of_row w6 _ 1 _ _ hrow
      have s2 := frozen_of_row w6 _ 2 _ _ hrow
      simp at r0 r1 r2
      clear hrow
      refine one_readyH (i := 13) (by kernel_rfl) rfl rfl (fun K hK => ?_)
      go_simp
      have HG6 := hide (((HGdzxy.out.set ⟨bz, 0, none⟩ (by simpa using hbz) (.slice a1 0 x1)).set ⟨bz, 1, none⟩ (by simpa using hbz) (.slice a2 0 x2)).set ⟨bz, 2, none⟩ (by simpa using hbz) (.slice a3 0 x3))
      refine hK _ _ HG6.out ?_
      clear hK K HGdzxy r0 r1 r2 s0 s1 s2
      generalize ((w6.setCell ⟨bz, 0, none⟩ (.slice a1 0 x1)).setCell ⟨bz, 1, none⟩ (.slice a2 0 x2)).setCell ⟨bz, 2, none⟩ (.slice a3 0 x3) = wg at *
      refine one_readyH (i := 14) (by kernel_rfl) rfl rfl (fun K hK => ?_)
      go_simp
      refine hK _ _ HG6.out ?_
      clear hK K
      refine one_readyH (i := 15) (by kernel_rfl) rfl rfl (fun K hK => ?_)
      go_simp
      refine hK _ _ HG6.out ?_
      clear hK K
      refine wpAnyH_done (by kernel_rfl) ?_ _
      have HI2 := hide (fun W b (h : LedV W (lg o1 (some A) o3 T.length c1 P.length c2 V.length c3) T P V) (h' : TapsAt W (some b) [(⟨a, q.g, q.s, m, z⟩ : TP)]) => into_any T P V [(⟨a, q.g, q.s, m, z⟩ : TP)] o1 (some A) o3 (some b) c1 c2 c3 1 W h hl h' (by simp) (by simp))
      have hch := once_chk HPc.out (errP_all_chk (chkL_right HCh.out).2.2.2.2 q (List.mem_of_getElem? HQ.out))
      have hi6 := once_into (p := (⟨a, q.g, q.s, m, z⟩ : TP)) HCh.out HQ.out hch rfl rfl
      obtain ⟨e1, e2, e3, e4⟩ := into_err (T := T) (P := P) (V := V) (M := [(⟨a, q.g, q.s, m, z⟩ : TP)]) (by rw [hi6]; decide)
      rw [hi6, e1, e2, e3, e4] at HI2
      have HE := hide (once_enter (p := (⟨a, q.g, q.s, m, z⟩ : TP)) HCh.out HQ.out hch rfl rfl)
      clear hi6 e1 e2 e3 e4 hch HI1
      have l0 := HG6.out.cell 0 0 w.heap.size _ _ _ rfl rfl rfl
      have l1 := HG6.out.cell 0 1 w.heap.size _ _ _ rfl rfl rfl
      have l2 := HG6.out.cell 0 2 w.heap.size _ _ _ rfl rfl rfl
      have t0 := HG6.out.cell 1 0 (w.heap.size + 1) _ _ _ rfl rfl rfl
      have t1 := HG6.out.cell 1 1 (w.heap.size + 1) _ _ _ rfl rfl rfl
      have t2 := HG6.out.cell 1 2 (w.heap.size + 1) _ _ _ rfl rfl rfl
      have t3 := HG6.out.cell 1 3 (w.heap.size + 1) _ _ _ rfl rfl rfl
      have t4 := HG6.out.cell 1 4 (w.heap.size + 1) _ _ _ rfl rfl rfl
      go_wp2_with fail
      refine (HI2.out _ _ (HLed.out.below (HG6.out.2.2.alloc HG6.out.2.2.size _)) (tapsAt_one ⟨by simp [go_sem], by simp [go_sem], by simp [go_sem], by simp [go_sem], by simp [go_sem]⟩)).mono ?_
      rintro e w7 ⟨⟨lv, od2, nd2, cd2, rfl, ⟨v1, v2, v3, rfl, ⟨⟨b1, y1, rfl, -, -⟩, -⟩, ⟨⟨b2, y2, rfl, -, -⟩, -⟩, ⟨⟨b3, y3, rfl, -, -⟩, -⟩⟩, -, -⟩, hbd⟩
      have HG7 := hide ((HG6.out.on ((Below.refl _ _).alloc (Nat.le_refl _) _)).on hbd)
      clear hbd HG6 l0 l1 l2 t0 t1 t2 t3 t4 HI2
      have HG8 := hide (HG7.out.on ((Below.refl w7.heap.size w7).alloc (Nat.le_refl _) (cL b1 b2 b3 0 y1 0 y2 0 y3 26)))
      have l0 := HG7.out.cell 0 0 w.heap.size _ _ _ rfl rfl rfl
      have l1 := HG7.out.cell 0 1 w.heap.size _ _ _ rfl rfl rfl
      have l2 := HG7.out.cell 0 2 w.heap.size _ _ _ rfl rfl rfl
      have t0 := HG7.out.cell 1 0 (w.heap.size + 1) _ _ _ rfl rfl rfl
      have t1 := HG7.out.cell 1 1 (w.heap.size + 1) _ _ _ rfl rfl rfl
      have t2 := HG7.out.cell 1 2 (w.heap.size + 1) _ _ _ rfl rfl rfl
      have t3 := HG7.out.cell 1 3 (w.heap.size + 1) _ _ _ rfl rfl rfl
      have t4 := HG7.out.cell 1 4 (w.heap.size + 1) _ _ _ rfl rfl rfl
      have lt0 := HG7.out.lt 0 w.heap.size (by simp) rfl
      have lt1 := HG7.out.lt 1 (w.heap.size + 1) (by simp) rfl
      go_wp2_with fail
      refine (enterVv (HLed.out.below HG8.out.2.2) hl _ _ _ _ _).mono ?_
      rintro e w9 ⟨⟨ve, rfl, hve⟩, hbd⟩
      obtain ⟨f1, g1, f2, g2, f3, g3, rfl, -⟩ := hve.opened
      have HB9 := hide (HG8.out.2.2.trans (hbd.mono HG8.out.2.2.size))
      clear hve hbd l0 l1 l2 t0 t1 t2 t3 t4
      generalize (enterV T P V ⟨a, q.g, q.s, m, z⟩).2 = EE at *
      rcases HE.out with rfl | rfl
      · go_wp2_with fail
        go_ret
        exact ⟨rfl, HB9.out.alloc HB9.out.size _⟩
      · go_wp2_with fail
        go_ret
        exact ⟨rfl, HB9.out.alloc HB9.out.size _⟩
end Go.Proofs.Ytefdnddaggpgkaa
