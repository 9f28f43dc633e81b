/-
  Texts joined: Z13, Z16, Z19, N8, Z14, F3, F2, F5, F7, F10, F11, Z15.
-/
import Derived.Shelf.SlSortCmp.WholeK
import Derived.Test.YtcjfmbeemdcklaaGreatRows
import Derived.Deep.CutRange
import Derived.Deep.CutBlock
import Derived.BigQuiet
import Derived.WalkSmall
import Derived.Laws.OwnMore
import Derived.Shelf.SlSortCmp.NoneTotal
import Derived.Test.YtcjfmbeemdcklaaGreatPk4
/-
  'enter' (package station).
-/
namespace Go.Proofs.YtcjfmbeemdcklaaGreat
open Go.RowKit
def entK (T : List TK) (P : List TP) (V : List Int) (dv : Int) (D : List Int) (n z s id m : Int) : Int × Int :=
  if (decide (unfD dv D id = 0) && hasI D id) = true then (0, 11) else if wi m 0 9999 = false then (0, 3) else if s = 99 then (0, 2) else enterV T P V ⟨id, n, s + 1, m, z⟩
set_option maxHeartbeats 12800000 in
set_option maxRecDepth 100000 in
theorem keeperEnter_any (K Q B : Nat) (a : KA) (T : List TK) (P : List TP) (V : List Int) (dv : Int) (D : List Int) (G : List GT) (W : List VW) (q : Nat) (g : GT) (id m : Int) (w : World) (hK : Ks w K Q B a T P V dv D G W) (hq : G[q]? = some g) (hl : LensOk T P V) (hlD : D.length ≤ 9223372036854775807) (hs0 : 0 ≤ g.s) (hs1 : g.s ≤ 99) :
    Calls Tryz.prog 107 #[.pointer (some ⟨K, 0, none⟩), .int .i64 id, .int .i64 (q : Int), .int .i64 m] w fun e w' => (∃ R : Int × Int, R = entK T P V dv D q g.z g.s id m ∧ e = .returned (.tuple #[.int .i64 R.1, .int .i64 R.2]) ∧ (R.2 ≠ 0 → Ks w' K Q B a T P V dv D G W) ∧
      (R.2 = 0 → ∃ a', Ks w' K Q B a' T (P ++ [⟨id, q, g.s + 1, m, g.z⟩]) (V ++ [R.1]) dv D (G.set q { g with s := g.s + 1 }) W)) ∧ Kq (KQ K Q) w w' := by
  have HK := hide hK
  have hKlt := hK.lt
  have hQlt := hK.qlt
  have hbk := hK.bk
  have hql := (List.getElem?_eq_some_iff.1 hq).1
  have hi1 : (0 : Int) ≤ (q : Int) := by omega
  have hi2 : (q : Int) < (G.length : Int) := by omega
  have hadd := own_addrZ Q (q * 8)
  have HHas := hide (fun X (h : Ks X K Q B a T P V dv D G W) => has_any dv id D a.od a.cd X h.kl.den.1.ats hlD)
  have HEn := hide (fun X (h : Ks X K Q B a T P V dv D G W) => enterN h.led hl id q (g.s + 1) m g.z)
  have Hq := hide hq
  have k3 := hK.c3
  have k4 := hK.c4
  have k5 := hK.c5
  clear hK hq
  unfold entK
  generalize (decide (unfD dv D id = 0) && hasI D id) = hs at *
  generalize unfD dv D id = ud at *
  cases hs
  · rw [if_neg (show ¬ false = true by decide)]
    cases hm : wi m 0 9999
    · rw [if_pos rfl]
      go_enter Tryz.func107, Tryz.ntmps107
      go_wp2_with fail
      refine (HHas.out _ HK.out).mono ?_
      rintro e w1 ⟨rfl, hb⟩
      have HK1 := hide (HK.out.below hb)
      have HA1 := hide hb
      clear hb k3 k4 k5 HHas
      go_wp2_with (go_at_call 130; refine (isTime_any _ _).mono ?_; rintro e w' ⟨rfl, hw⟩; obtain rfl := hw.symm; rw [hm])
      go_ret2
      exact ⟨⟨(0, 3), rfl, rfl, fun _ => HK1.out, fun h => absurd h (by decide)⟩, .ofBelow HA1.out⟩
    · rw [if_neg (show ¬ true = false by decide)]
      have g2 := HK.out.g2 Hq.out
      by_cases h99 : g.s = 99
      · rw [if_pos h99]
        have h99' : (g.s == 99) = true := by simpa using h99
        clear g2
        go_enter Tryz.func107, Tryz.ntmps107
        go_wp2_with fail
        refine (HHas.out _ HK.out).mono ?_
        rintro e w1 ⟨rfl, hb⟩
        have HK1 := hide (HK.out.below hb)
        have HA1 := hide hb
        clear hb k3 k4 k5 HHas
        have g2 := HK1.out.g2 Hq.out
        clear h99
        go_wp2_with (go_at_call 130; refine (isTime_any _ _).mono ?_; rintro e w' ⟨rfl, hw⟩; obtain rfl := hw.symm; rw [hm])
        go_ret2
        exact ⟨⟨(0, 2), rfl, rfl, fun _ => HK1.out, fun h => absurd h (by decide)⟩, .ofBelow HA1.out⟩
      · rw [if_neg h99]
        have h99' : (g.s == 99) = false := by simpa using h99
        clear g2
        obtain ⟨R1, R2, hR⟩ : ∃ R1 R2, (R1, R2) = enterV T P V ⟨id, q, g.s + 1, m, g.z⟩ := ⟨_, _, rfl⟩
        rw [← hR] at HEn ⊢
        simp only [] at HEn ⊢
        obtain ⟨X1, hX1⟩ : ∃ X1, X1 = if R2 = 0 then T else [] := ⟨_, rfl⟩
        obtain ⟨X2, hX2⟩ : ∃ X2, X2 = if R2 = 0 then P ++ [(⟨id, q, g.s + 1, m, g.z⟩ : TP)] else [] := ⟨_, rfl⟩
        obtain ⟨X3, hX3⟩ : ∃ X3, X3 = if R2 = 0 then V ++ [R1] else [] := ⟨_, rfl⟩
        rw [← hX1, ← hX2, ← hX3] at HEn
        have HX := hide (And.intro hX1 (And.intro hX2 hX3))
        clear hX1 hX2 hX3 hR
        go_enter Tryz.func107, Tryz.ntmps107
        go_wp2_with fail
        refine (HHas.out _ HK.out).mono ?_
        rintro e w1 ⟨rfl, hb⟩
        have HK1 := hide (HK.out.below hb)
        have HA1 := hide hb
        clear hb k3 k4 k5 HHas
        have g2 := HK1.out.g2 Hq.out
        have hs2 : g.s < 99 := by omega
        have hwr : IntKind.i64.wrap (g.s + 1) = g.s + 1 := by rw [IntKind.wrap_i64]; omega
        clear h99
        go_upto_region 9 with (go_at_call 130; refine (isTime_any _ _).mono ?_; rintro e w' ⟨rfl, hw⟩; obtain rfl := hw.symm; rw [hm])
        refine wp_region_reads (fun w' => Ks w' K Q B a T P V dv D G W) [0, 1, 2, 3, 4, 5, 6, 7, 8, 9, 10, 11, 12] 2 (by rfl) (by kernel_rfl) (by kernel_rfl) (by kernel_rfl) (fun c d v a w h => by cases d <;> exact h) ?_ ?_
        · exact HK1.out.below (Below.refl _ _).drew
        refine wpPureH_step (.int .i64 id) rfl rfl (fun w' hS => ?_) ?_
        · go_simp
        refine wpPureH_step (.int .i64 (q : Int)) rfl rfl (fun w' hS => ?_) ?_
        · go_simp
        refine wpPureH_step (.pointer (some ⟨Q, q * 8, none⟩)) rfl rfl (fun w' hS => ?_) ?_
        · go_simp
        refine wpPureH_step (.pointer (some ⟨Q, q * 8, none⟩)) rfl rfl (fun w' hS => ?_) ?_
        · go_simp
        refine wpPureH_step (.pointer (some ⟨Q, q * 8 + 2, none⟩)) rfl rfl (fun w' hS => ?_) ?_
        · go_simp
        refine wpPureH_step (.int .i64 g.s) rfl rfl (fun w' hS => ?_) ?_
        · have g2 := hS.g2 Hq.out
          go_simp
        refine wpPureH_step (.int .i64 (g.s + 1)) rfl rfl (fun w' hS => ?_) ?_
        · go_simp
        refine wpPureH_step (.int .i64 m) rfl rfl (fun w' hS => ?_) ?_
        · go_simp
        refine wpPureH_step (.pointer (some ⟨Q, q * 8, none⟩)) rfl rfl (fun w' hS => ?_) ?_
        · go_simp
        refine wpPureH_step (.pointer (some ⟨Q, q * 8, none⟩)) rfl rfl (fun w' hS => ?_) ?_
        · go_simp
        refine wpPureH_step (.pointer (some ⟨Q, q * 8 + 1, none⟩)) rfl rfl (fun w' hS => ?_) ?_
        · go_simp
        refine wpPureH_step (.int .i64 g.z) rfl rfl (fun w' hS => ?_) ?_
        · have g1 := hS.g1 Hq.out
          go_simp
        refine wpPureH_step (tp id q (g.s + 1) m g.z) rfl rfl (fun w' hS => ?_) ?_
        · go_simp
        refine wpPureH_nil ?_
        have HKd := hide (HK1.out.below (Below.refl _ _).drew)
        have HAd := hide ((Below.refl w1.heap.size w1).drew)
        have hsd : w1.heap.size ≤ w1.drew.heap.size := Nat.le_refl _
        clear HK1 g2
        generalize (World.drew _) = w0 at *
        refine one_readyH (i := 13) (by kernel_rfl) rfl rfl (fun J hJ => ?_)
        go_simp
        have hba := (Below.refl w0.heap.size w0).alloc (Nat.le_refl _) (.cells #[.int .i64 0, .int .i64 0, .int .i64 0, .int .i64 0, .int .i64 0] 58)
        have HZ0 := hide (heap_alloc_new w0 (.cells #[.int .i64 0, .int .i64 0, .int .i64 0, .int .i64 0, .int .i64 0] 58))
        refine hJ _ _ (HKd.out.below hba) ?_
        have Hba := hide hba
        clear hJ J hba
        generalize w0.alloc (.cells #[.int .i64 0, .int .i64 0, .int .i64 0, .int .i64 0, .int .i64 0] 58) = w2 at *
        have r0 := cell_of_row _ _ 0 _ _ _ HZ0.out
        have s0 := frozen_of_row _ _ 0 _ _ HZ0.out
        have r1 := cell_of_row _ _ 1 _ _ _ HZ0.out
        have s1 := frozen_of_row _ _ 1 _ _ HZ0.out
        have r2 := cell_of_row _ _ 2 _ _ _ HZ0.out
        have s2 := frozen_of_row _ _ 2 _ _ HZ0.out
        have r3 := cell_of_row _ _ 3 _ _ _ HZ0.out
        have s3 := frozen_of_row _ _ 3 _ _ HZ0.out
        have r4 := cell_of_row _ _ 4 _ _ _ HZ0.out
        have s4 := frozen_of_row _ _ 4 _ _ HZ0.out
        simp at r0 r1 r2 r3 r4
        refine one_readyH (i := 14) (by kernel_rfl) rfl rfl (fun J hJ => ?_)
        go_simp
        have HBz := hide (((((Hba.out.setCell (p := ⟨w0.heap.size, 0, none⟩) (Nat.le_refl _) (.int .i64 id)).setCell (p := ⟨w0.heap.size, 1, none⟩) (Nat.le_refl _) (.int .i64 (q : Int))).setCell (p := ⟨w0.heap.size, 2, none⟩) (Nat.le_refl _) (.int .i64 (g.s + 1))).setCell (p := ⟨w0.heap.size, 3, none⟩) (Nat.le_refl _) (.int .i64 m)).setCell (p := ⟨w0.heap.size, 4, none⟩) (Nat.le_refl _) (.int .i64 g.z))
        have HZ := hide (heap_setCell_same _ w0.heap.size 4 _ _ (.int .i64 g.z) (heap_setCell_same _ w0.heap.size 3 _ _ (.int .i64 m) (heap_setCell_same _ w0.heap.size 2 _ _ (.int .i64 (g.s + 1)) (heap_setCell_same _ w0.heap.size 1 _ _ (.int .i64 (q : Int)) (heap_setCell_same _ w0.heap.size 0 _ _ (.int .i64 id) HZ0.out)))))
        refine hJ _ _ (HKd.out.below HBz.out) ?_
        have HK1 := hide (HKd.out.below HBz.out)
        have HAz := hide (HAd.out.trans (HBz.out.mono hsd))
        clear hJ J HKd HZ0 Hba HAd r0 r1 r2 r3 r4 s0 s1 s2 s3 s4 HBz
        generalize ((((w2.setCell ⟨w0.heap.size, 0, none⟩ (.int .i64 id)).setCell ⟨w0.heap.size, 1, none⟩ (.int .i64 (q : Int))).setCell ⟨w0.heap.size, 2, none⟩ (.int .i64 (g.s + 1))).setCell ⟨w0.heap.size, 3, none⟩ (.int .i64 m)).setCell ⟨w0.heap.size, 4, none⟩ (.int .i64 g.z) = w3 at *
        refine wpAnyH_done (by kernel_rfl) ?_ _
        have hs3 : w0.heap.size < w3.heap.size := (Array.getElem?_eq_some_iff.1 HZ.out).1
        have hs4 : w1.heap.size ≤ w3.heap.size := by omega
        go_upto_region 10 with fail
        go_cut [14, 15, 16] from 59 to 70 (fun s14 s15 s16 wx => ∃ b x1 y1 x2 y2 x3 y3, s14 = .pointer (some ⟨b, 0, none⟩) ∧ s15 = .int .i64 R1 ∧ s16 = .int .i64 R2 ∧ Hid (w1.heap.size ≤ b ∧ wx.heap[b]? = some (.cells #[.slice x1 X1.length y1, .slice x2 X2.length y2, .slice x3 X3.length y3] 26)) ∧ Hid (Led6 w1.heap.size wx x1 y1 x2 y2 x3 y3 X1 X2 X3) ∧ Hid (Below w1.heap.size w1 wx))
        case first =>
          refine wp_region_reads (fun w' => Ks w' K Q B a T P V dv D G W ∧ w'.heap[w0.heap.size]? = some (.cells #[.int .i64 id, .int .i64 (q : Int), .int .i64 (g.s + 1), .int .i64 m, .int .i64 g.z] 58)) [0, 1, 2, 3, 4, 5] 9 (by rfl) (by kernel_rfl) (by kernel_rfl) (by kernel_rfl) (fun c d v a w h => by cases d <;> exact h) ?_ ?_
          · exact ⟨HK1.out.below (Below.refl _ _).drew, at_below HZ.out (Below.refl _ _).drew⟩
          refine wpPureH_step (.pointer (some ⟨K, 0, none⟩)) rfl rfl (fun w' hS => ?_) ?_
          · go_simp
          refine wpPureH_step (.pointer (some ⟨K, 0, none⟩)) rfl rfl (fun w' hS => ?_) ?_
          · go_simp
          refine wpPureH_step (.pointer (some ⟨K, 0, none⟩)) rfl rfl (fun w' hS => ?_) ?_
          · go_simp
          refine wpPureH_step (.pointer (some ⟨K, 0, none⟩)) rfl rfl (fun w' hS => ?_) ?_
          · go_simp
          refine wpPureH_step (lg a.o1 a.o2 a.o3 T.length a.c1 P.length a.c2 V.length a.c3) rfl rfl (fun w' hS => ?_) ?_
          · have k0 := hS.1.c0
            have k1 := hS.1.c1
            have k2 := hS.1.c2
            go_simp
          refine wpPureH_step (tp id q (g.s + 1) m g.z) rfl rfl (fun w' hS => ?_) ?_
          · have x0 : w'.cell? ⟨w0.heap.size, 0, none⟩ = some (.int .i64 id) := by rw [cell_of_row _ _ 0 _ _ _ hS.2]; rfl
            have x1 : w'.cell? ⟨w0.heap.size, 1, none⟩ = some (.int .i64 (q : Int)) := by rw [cell_of_row _ _ 1 _ _ _ hS.2]; rfl
            have x2 : w'.cell? ⟨w0.heap.size, 2, none⟩ = some (.int .i64 (g.s + 1)) := by rw [cell_of_row _ _ 2 _ _ _ hS.2]; rfl
            have x3 : w'.cell? ⟨w0.heap.size, 3, none⟩ = some (.int .i64 m) := by rw [cell_of_row _ _ 3 _ _ _ hS.2]; rfl
            have x4 : w'.cell? ⟨w0.heap.size, 4, none⟩ = some (.int .i64 g.z) := by rw [cell_of_row _ _ 4 _ _ _ hS.2]; rfl
            go_simp
          refine wpPureH_nil ?_
          have HKd := hide (HK1.out.below (Below.refl _ _).drew)
          have HZd := hide (at_below HZ.out (Below.refl _ _).drew)
          have HAe := hide (HAz.out.drew)
          have hsd3 : w3.heap.size ≤ w3.drew.heap.size := Nat.le_refl _
          clear HK1 HZ HAz
          generalize (World.drew _) = w5 at *
          refine two_readyH (i := 6) (j := 11) (by kernel_rfl) rfl rfl rfl rfl (fun K hK => ?_) (fun K hK => ?_)
          · go_simp
            refine (HEn.out w5 HKd.out).mono ?_
            rintro e v1 ⟨⟨lv, rfl, hN⟩, hb⟩
            obtain ⟨x1, y1, x2, y2, x3, y3, rfl, hN6⟩ := hN.led6
            have HN := hide hN6
            clear hN hN6
            have HB := hide hb
            refine hK _ _ ⟨HKd.out.below HB.out, at_below HZd.out HB.out⟩ ?_
            clear hK K hb
            refine takesH (fuel := 4) (by kernel_rfl) (fun c d v a w h => by cases d <;> exact h) ⟨HKd.out.below HB.out, at_below HZd.out HB.out⟩ [7, 8, 9, 10] _ _ (by kernel_rfl) ?_
            refine wpPureH_step (.tuple #[lg x1 x2 x3 X1.length y1 X2.length y2 X3.length y3, .int .i64 R1, .int .i64 R2]) rfl rfl (fun w' _ => by go_simp) ?_
            refine wpPureH_step (lg x1 x2 x3 X1.length y1 X2.length y2 X3.length y3) rfl rfl (fun w' _ => by go_simp) ?_
            refine wpPureH_step (.int .i64 R1) rfl rfl (fun w' _ => by go_simp) ?_
            refine wpPureH_step (.int .i64 R2) rfl rfl (fun w' _ => by go_simp) ?_
            refine wpPureH_nil ?_
            refine one_readyH (i := 11) (by kernel_rfl) rfl rfl (fun K hK => ?_)
            go_simp
            have hba := (Below.refl v1.heap.size v1).alloc (Nat.le_refl _) (.cells #[.slice none 0 0, .slice none 0 0, .slice none 0 0] 26)
            have HBa := hide (HB.out.trans (hba.mono HB.out.size))
            have Hba := hide hba
            have hZ : (v1.alloc (.cells #[.slice none 0 0, .slice none 0 0, .slice none 0 0] 26)).heap[v1.heap.size]? = some (.cells #[.slice none 0 0, .slice none 0 0, .slice none 0 0] 26) := heap_alloc_new v1 _
            have hlb : w5.heap.size ≤ v1.heap.size := HB.out.size
            refine hK _ _ ⟨HKd.out.below HBa.out, at_below HZd.out HBa.out⟩ ?_
            clear hK K hba HB
            generalize v1.alloc (.cells #[.slice none 0 0, .slice none 0 0, .slice none 0 0] 26) = v2 at *
            have r0 := cell_of_row _ _ 0 _ _ _ hZ
            have s0 := frozen_of_row _ _ 0 _ _ hZ
            have r1 := cell_of_row _ _ 1 _ _ _ hZ
            have s1 := frozen_of_row _ _ 1 _ _ hZ
            have r2 := cell_of_row _ _ 2 _ _ _ hZ
            have s2 := frozen_of_row _ _ 2 _ _ hZ
            simp at r0 r1 r2
            have HZ : Hid ((((v2.setCell ⟨v1.heap.size, 0, none⟩ (.slice x1 X1.length y1)).setCell ⟨v1.heap.size, 1, none⟩ (.slice x2 X2.length y2)).setCell ⟨v1.heap.size, 2, none⟩ (.slice x3 X3.length y3)).heap[v1.heap.size]? = some (.cells #[.slice x1 X1.length y1, .slice x2 X2.length y2, .slice x3 X3.length y3] 26)) := hide (heap_setCell_same _ v1.heap.size 2 _ _ (.slice x3 X3.length y3) (heap_setCell_same _ v1.heap.size 1 _ _ (.slice x2 X2.length y2) (heap_setCell_same _ v1.heap.size 0 _ _ (.slice x1 X1.length y1) hZ)))
            have HBz := hide (((HBa.out.setCell (p := ⟨v1.heap.size, 0, none⟩) hlb (.slice x1 X1.length y1)).setCell (p := ⟨v1.heap.size, 1, none⟩) hlb (.slice x2 X2.length y2)).setCell (p := ⟨v1.heap.size, 2, none⟩) hlb (.slice x3 X3.length y3))
            have hbz := (((Hba.out.setCell (p := ⟨v1.heap.size, 0, none⟩) (Nat.le_refl _) (.slice x1 X1.length y1)).setCell (p := ⟨v1.heap.size, 1, none⟩) (Nat.le_refl _) (.slice x2 X2.length y2)).setCell (p := ⟨v1.heap.size, 2, none⟩) (Nat.le_refl _) (.slice x3 X3.length y3))
            have HNz := hide (HN.out.below hbz)
            clear hbz Hba
            refine one_readyH (i := 12) (by kernel_rfl) rfl rfl (fun K hK => ?_)
            go_simp
            refine hK _ _ ⟨HKd.out.below HBz.out, at_below HZd.out HBz.out⟩ ?_
            clear hK K r0 s0 r1 s1 r2 s2 hZ HBa HN
            generalize (((v2.setCell ⟨v1.heap.size, 0, none⟩ (.slice x1 X1.length y1)).setCell ⟨v1.heap.size, 1, none⟩ (.slice x2 X2.length y2)).setCell ⟨v1.heap.size, 2, none⟩ (.slice x3 X3.length y3)) = vz at *
            refine one_readyH (i := 13) (by kernel_rfl) rfl rfl (fun K hK => ?_)
            go_simp
            refine hK _ _ ⟨HKd.out.below HBz.out, at_below HZd.out HBz.out⟩ ?_
            clear hK K
            refine one_readyH (i := 14) (by kernel_rfl) rfl rfl (fun K hK => ?_)
            go_simp
            refine hK _ _ ⟨HKd.out.below HBz.out, at_below HZd.out HBz.out⟩ ?_
            clear hK K
            refine wpAnyH_done (by kernel_rfl) ?_ _
            go_wp2_with fail
            go_meet
            case rel => exact ⟨v1.heap.size, x1, y1, x2, y2, x3, y3, rfl, rfl, rfl, hide ⟨by omega, HZ.out⟩, hide (HNz.out.mono (by omega)), hide (HAe.out.trans (HBz.out.mono (by omega)))⟩
          · go_simp
            have hba := (Below.refl w5.heap.size w5).alloc (Nat.le_refl _) (.cells #[.slice none 0 0, .slice none 0 0, .slice none 0 0] 26)
            have HB := hide hba
            have hZ0 : Hid ((w5.alloc (.cells #[.slice none 0 0, .slice none 0 0, .slice none 0 0] 26)).heap[w5.heap.size]? = some (.cells #[.slice none 0 0, .slice none 0 0, .slice none 0 0] 26)) := hide (heap_alloc_new w5 _)
            have hs1 : (w5.alloc (.cells #[.slice none 0 0, .slice none 0 0, .slice none 0 0] 26)).heap.size = w5.heap.size + 1 := by simp
            refine hK _ _ ⟨HKd.out.below HB.out, at_below HZd.out HB.out⟩ ?_
            clear hK K hba
            generalize w5.alloc (.cells #[.slice none 0 0, .slice none 0 0, .slice none 0 0] 26) = v1 at *
            refine one_readyH (i := 6) (by kernel_rfl) rfl rfl (fun K hK => ?_)
            go_simp
            refine (HEn.out _ (HKd.out.below HB.out)).mono ?_
            rintro e v2 ⟨⟨lv, rfl, hN⟩, hb⟩
            obtain ⟨x1, y1, x2, y2, x3, y3, rfl, hN6⟩ := hN.led6
            have HN := hide hN6
            clear hN hN6
            have HBa := hide (HB.out.trans (hb.mono HB.out.size))
            have hZ : v2.heap[w5.heap.size]? = some (.cells #[.slice none 0 0, .slice none 0 0, .slice none 0 0] 26) := at_below hZ0.out hb
            have hlb : w5.heap.size ≤ w5.heap.size := Nat.le_refl _
            refine hK _ _ ⟨HKd.out.below HBa.out, at_below HZd.out HBa.out⟩ ?_
            clear hK K hb HB hZ0
            refine takesH (fuel := 3) (by kernel_rfl) (fun c d v a w h => by cases d <;> exact h) ⟨HKd.out.below HBa.out, at_below HZd.out HBa.out⟩ [7, 8, 9, 10] _ _ (by kernel_rfl) ?_
            refine wpPureH_step (.tuple #[lg x1 x2 x3 X1.length y1 X2.length y2 X3.length y3, .int .i64 R1, .int .i64 R2]) rfl rfl (fun w' _ => by go_simp) ?_
            refine wpPureH_step (lg x1 x2 x3 X1.length y1 X2.length y2 X3.length y3) rfl rfl (fun w' _ => by go_simp) ?_
            refine wpPureH_step (.int .i64 R1) rfl rfl (fun w' _ => by go_simp) ?_
            refine wpPureH_step (.int .i64 R2) rfl rfl (fun w' _ => by go_simp) ?_
            refine wpPureH_nil ?_
            have r0 := cell_of_row _ _ 0 _ _ _ hZ
            have s0 := frozen_of_row _ _ 0 _ _ hZ
            have r1 := cell_of_row _ _ 1 _ _ _ hZ
            have s1 := frozen_of_row _ _ 1 _ _ hZ
            have r2 := cell_of_row _ _ 2 _ _ _ hZ
            have s2 := frozen_of_row _ _ 2 _ _ hZ
            simp at r0 r1 r2
            have HZ : Hid ((((v2.setCell ⟨w5.heap.size, 0, none⟩ (.slice x1 X1.length y1)).setCell ⟨w5.heap.size, 1, none⟩ (.slice x2 X2.length y2)).setCell ⟨w5.heap.size, 2, none⟩ (.slice x3 X3.length y3)).heap[w5.heap.size]? = some (.cells #[.slice x1 X1.length y1, .slice x2 X2.length y2, .slice x3 X3.length y3] 26)) := hide (heap_setCell_same _ w5.heap.size 2 _ _ (.slice x3 X3.length y3) (heap_setCell_same _ w5.heap.size 1 _ _ (.slice x2 X2.length y2) (heap_setCell_same _ w5.heap.size 0 _ _ (.slice x1 X1.length y1) hZ)))
            have HBz := hide (((HBa.out.setCell (p := ⟨w5.heap.size, 0, none⟩) hlb (.slice x1 X1.length y1)).setCell (p := ⟨w5.heap.size, 1, none⟩) hlb (.slice x2 X2.length y2)).setCell (p := ⟨w5.heap.size, 2, none⟩) hlb (.slice x3 X3.length y3))
            have HNz := hide (Led6.mono ((((HN.out.mono (show w5.heap.size + 1 ≤ v1.heap.size by omega)).set (p := ⟨w5.heap.size, 0, none⟩) (by simp) (.slice x1 X1.length y1)).set (p := ⟨w5.heap.size, 1, none⟩) (by simp) (.slice x2 X2.length y2)).set (p := ⟨w5.heap.size, 2, none⟩) (by simp) (.slice x3 X3.length y3)) (Nat.le_succ _))
            refine one_readyH (i := 12) (by kernel_rfl) rfl rfl (fun K hK => ?_)
            go_simp
            refine hK _ _ ⟨HKd.out.below HBz.out, at_below HZd.out HBz.out⟩ ?_
            clear hK K r0 s0 r1 s1 r2 s2 hZ HBa HN
            generalize (((v2.setCell ⟨w5.heap.size, 0, none⟩ (.slice x1 X1.length y1)).setCell ⟨w5.heap.size, 1, none⟩ (.slice x2 X2.length y2)).setCell ⟨w5.heap.size, 2, none⟩ (.slice x3 X3.length y3)) = vz at *
            refine one_readyH (i := 13) (by kernel_rfl) rfl rfl (fun K hK => ?_)
            go_simp
            refine hK _ _ ⟨HKd.out.below HBz.out, at_below HZd.out HBz.out⟩ ?_
            clear hK K
            refine one_readyH (i := 14) (by kernel_rfl) rfl rfl (fun K hK => ?_)
            go_simp
            refine hK _ _ ⟨HKd.out.below HBz.out, at_below HZd.out HBz.out⟩ ?_
            clear hK K
            refine wpAnyH_done (by kernel_rfl) ?_ _
            go_wp2_with fail
            go_meet
            case rel => exact ⟨w5.heap.size, x1, y1, x2, y2, x3, y3, rfl, rfl, rfl, hide ⟨by omega, HZ.out⟩, hide (HNz.out.mono (by omega)), hide (HAe.out.trans (HBz.out.mono (by omega)))⟩
        case rest =>
          obtain ⟨b, x1, y1, x2, y2, x3, y3, rfl, rfl, rfl, HZ4, HL, HB⟩ := hcut
          have HK2 := hide (HK.out.below (HA1.out.trans (HB.out.mono HA1.out.size)))
          have HA2 := hide (HA1.out.trans (HB.out.mono HA1.out.size))
          have hs5 := HA1.out.size
          clear HK1 HEn HZ HAz HA1
          rcases hE : (R2 != 0) with _ | _
          · obtain rfl : R2 = 0 := by simpa using hE
            obtain ⟨hx1, hx2, hx3⟩ := HX.out
            rw [if_pos rfl] at hx1 hx2 hx3
            have HX0 := hide (And.intro hx1 (And.intro hx2 hx3))
            clear hx1 hx2 hx3
            have r0 := cell_of_row _ _ 0 _ _ _ HZ4.out.2
            have r1 := cell_of_row _ _ 1 _ _ _ HZ4.out.2
            have r2 := cell_of_row _ _ 2 _ _ _ HZ4.out.2
            simp at r0 r1 r2
            have k0 := HK2.out.c0
            have k1 := HK2.out.c1
            have k2 := HK2.out.c2
            have z0 := HK2.out.fz 0
            have z1 := HK2.out.fz 1
            have z2 := HK2.out.fz 2
            clear HX
            go_upto_region 14 with fail
            have HK3 := hide (HK2.out.setLed ⟨HL.out.1.1, .new HL.out.1.2 (by omega) (by omega) (by omega)⟩ ⟨HL.out.2.1.1, .new HL.out.2.1.2 (by omega) (by omega) (by omega)⟩ ⟨HL.out.2.2.1, .new HL.out.2.2.2 (by omega) (by omega) (by omega)⟩)
            have HF3 := hide ((((Kq.ofBelow HA2.out).setCell (S := KQ K Q) (p := ⟨K, 0, none⟩) (.inl rfl) (.slice x1 X1.length y1)).setCell (p := ⟨K, 1, none⟩) (.inl rfl) (.slice x2 X2.length y2)).setCell (p := ⟨K, 2, none⟩) (.inl rfl) (.slice x3 X3.length y3))
            clear r0 r1 r2 k0 k1 k2 z0 z1 z2 HK2 HA2 HL HZ4 HB
            generalize ((wc.setCell ⟨K, 0, none⟩ (.slice x1 X1.length y1)).setCell ⟨K, 1, none⟩ (.slice x2 X2.length y2)).setCell ⟨K, 2, none⟩ (.slice x3 X3.length y3) = w4 at *
            have g2 := HK3.out.g2 Hq.out
            have f2 := HK3.out.row.frozenAt (q * 8 + 2)
            go_wp2_with fail
            go_ret2
            have HK4 := HK3.out.setSeq q g Hq.out (g.s + 1)
            rw [HX0.out.1, HX0.out.2.1, HX0.out.2.2] at HK4
            exact ⟨⟨(R1, 0), rfl, rfl, fun h => absurd rfl h, fun _ => ⟨_, HK4⟩⟩, HF3.out.setCell (p := ⟨Q, q * 8 + 2, none⟩) (.inr rfl) _⟩
          · have hE' : ¬ R2 = 0 := by simpa using hE
            go_wp2_with fail
            go_ret2
            exact ⟨⟨(R1, R2), rfl, rfl, fun _ => HK2.out, fun h => absurd h hE'⟩, .ofBelow HA2.out⟩
  · rw [if_pos rfl]
    go_enter Tryz.func107, Tryz.ntmps107
    go_wp2_with fail
    refine (HHas.out _ HK.out).mono ?_
    rintro e w1 ⟨rfl, hb⟩
    have HK1 := hide (HK.out.below hb)
    have HA1 := hide hb
    clear hb k3 k4 k5 HHas
    go_wp2_with fail
    go_ret2
    exact ⟨⟨(0, 11), rfl, rfl, fun _ => HK1.out, fun h => absurd h (by decide)⟩, .ofBelow HA1.out⟩
end Go.Proofs.YtcjfmbeemdcklaaGreat

/-
  'tap' (package station).
-/
namespace Go.Proofs.YtcjfmbeemdcklaaGreat
open Go.RowKit
set_option maxRecDepth 100000 in
theorem ktap1_any (i k f t z r id : Int) (B : Nat) (w : World) (hc : w.cell? ⟨B, 0, none⟩ = some (.int .i64 id)) :
    Calls Tryz.prog 105 #[tk i k f t z r, .pointer (some ⟨B, 0, none⟩)] w fun e w' => e = .returned (.bool (i == id)) ∧ Below w.heap.size w w' := by
  have hlt := World.block_lt_of_cell? w ⟨B, 0, none⟩ hc
  go_enter Tryz.func105, Tryz.ntmps105
  go_wp2_with fail
  go_ret
  exact ⟨rfl, (Below.refl _ _).alloc (Nat.le_refl _) _⟩
set_option maxHeartbeats 1600000 in
set_option maxRecDepth 100000 in
theorem indexKT_any (B : Nat) (id : Int) (L : List TK) (o : Option Addr) (cap : Nat) (w : World) (hL : TiksAt w o L) (hlen : L.length ≤ 9223372036854775807) (hc : w.cell? ⟨B, 0, none⟩ = some (.int .i64 id)) :
    Calls Tryz.prog 104 #[.slice o L.length cap, .func (.func 105) #[] #[.pointer (some ⟨B, 0, none⟩)]] w fun e w' => e = .returned (.int .i64 (idxT L id)) ∧ Below w.heap.size w w' := by
  have HL := hide hL
  have hlt := World.block_lt_of_cell? w ⟨B, 0, none⟩ hc
  have HF := hide (fun (x : TK) (W : World) h => ktap1_any x.i x.k x.f x.t x.z x.r id B W h)
  clear hL
  go_enter Tryz.func104, Tryz.ntmps104
  go_wp2_with fail
  go_loopw [8] (fun j wr => ∃ (q : Nat), q ≤ L.length ∧ j = .int .i64 q ∧ Hid (∀ j, j < q → ∀ p, L[j]? = some p → p.i ≠ id) ∧ Below w.heap.size w wr) (fun j _ => L.length - (intOf j).toNat)
  case atStart => exact ⟨0, Nat.zero_le _, rfl, fun j h => by omega, Below.refl _ _⟩
  case round =>
    obtain ⟨q, hq, rfl, hE, hbr⟩ := hrel
    have c' : wr.cell? ⟨B, 0, none⟩ = some (.int .i64 id) := by rw [hbr.cell (p := ⟨B, 0, none⟩) hlt]; exact hc
    by_cases hgo : q < L.length
    · obtain ⟨x, hx⟩ : ∃ x, L[q]? = some x := ⟨L[q], by simp [hgo]⟩
      obtain ⟨A, rfl, c0, c1, c2, c3, c4, c5⟩ := (HL.out.below hbr) q x hx
      have HX := hide hx
      clear hx
      go_wp2_with fail
      refine (HF.out x _ c').mono ?_
      rintro e w1 ⟨rfl, hb⟩
      have hbr3 := hbr.trans (hb.mono hbr.size)
      clear hbr hb c'
      cases hg : (x.i == id)
      · go_wp2_with fail
        refine ⟨⟨q + 1, by omega, by simp, ?_, hbr3⟩, by simp [intOf]; omega⟩
        intro j hj p hp
        rcases Nat.lt_or_ge j q with h | h
        · exact hE.out j h p hp
        · have : j = q := by omega
          subst this
          rw [HX.out] at hp
          cases hp
          simpa using hg
      · have e1 := idxT_some HX.out (by simpa using hg) hE.out
        have H1 := hide e1
        clear e1
        go_wp2_with fail
        go_ret
        exact ⟨by rw [H1.out]; rfl, hbr3⟩
    · have e1 := idxT_none (L := L) (id := id) (fun j p hp => hE.out j (by have := (List.getElem?_eq_some_iff.1 hp).1; omega) p hp)
      have H1 := hide e1
      clear e1
      go_wp2_with fail
      go_ret
      exact ⟨by rw [H1.out]; rfl, hbr⟩
theorem idxT_at {T : List TK} {id : Int} (h : ¬ idxT T id < 0) : ∃ (k : Nat) (x : TK), idxT T id = k ∧ T[k]? = some x := by
  unfold idxT at h ⊢
  cases hf : T.findIdx? (fun p => p.i == id) with
  | none => rw [hf] at h; simp at h
  | some n =>
    obtain ⟨hlt, -⟩ := List.findIdx?_eq_some_iff_getElem.1 hf
    exact ⟨n, T[n], rfl, by simp [hlt]⟩
def alB (W : List VW) (A : List TP) : Bool := !nowB W || !A.isEmpty
def tapK (T : List TK) (P : List TP) (V : List Int) (dv : Int) (D : List Int) (W : List VW) (g : GP) (id q m : Int) : Int × Int :=
  if idxT T id < 0 then (0, 5) else if alB W g.A = true then (0, tapG g.i g.z g.s g.A g.v g.D g.l g.u (T.getD (idxT T id).toNat tk0) m) else entK T P V dv D q g.z g.s id m
set_option maxHeartbeats 3200000 in
set_option maxRecDepth 100000 in
theorem keeperTap_range (K : Nat) (id n m : Int) (w : World) (hn : wi n 0 2 = false) : Calls Tryz.prog 51 #[.pointer (some ⟨K, 0, none⟩), .int .i64 id, .int .i64 n, .int .i64 m] w fun e w' => e = .returned (.tuple #[.int .i64 0, .int .i64 3]) ∧ Below w.heap.size w w' := by
  go_enter Tryz.func51, Tryz.ntmps51
  go_wp2_with fail
  refine (isGate_any _ _).mono ?_
  rintro e w1 ⟨rfl, hw⟩
  obtain rfl := hw.symm
  rw [hn]
  go_wp2_with fail
  go_ret2
  exact ⟨rfl, (Below.refl _ _).alloc (Nat.le_refl _) _⟩
set_option maxHeartbeats 12800000 in
set_option maxRecDepth 100000 in
theorem keeperTap_any (K Q B : Nat) (a : KA) (T : List TK) (P : List TP) (V : List Int) (dv : Int) (D : List Int) (G : List GT) (W : List VW) (q : Nat) (g : GT) (id m : Int) (w : World) (hK : Ks w K Q B a T P V dv D G W) (hq : G[q]? = some g) (hq3 : q < 3) (hl : LensOk T P V) (hlA : g.A.length ≤ 9223372036854775807) (hlgD : g.D.length ≤ 9223372036854775807) (hlD : D.length ≤ 9223372036854775807) (hlW : W.length ≤ 9223372036854775807) (hs0 : 0 ≤ g.s) (hs1 : g.s ≤ 99) :
    Calls Tryz.prog 51 #[.pointer (some ⟨K, 0, none⟩), .int .i64 id, .int .i64 (q : Int), .int .i64 m] w fun e w' => (∃ R : Int × Int, R = tapK T P V dv D W g.p id q m ∧ e = .returned (.tuple #[.int .i64 R.1, .int .i64 R.2]) ∧ (R.2 ≠ 0 → Ks w' K Q B a T P V dv D G W) ∧
      (R.2 = 0 → (alB W g.A = true → ∃ x : GT, x.p = ⟨g.i, g.z, g.s + 1, g.A ++ [⟨(T.getD (idxT T id).toNat tk0).i, g.i, g.s + 1, m, g.z⟩], g.v, g.D, g.l - 1, g.u⟩ ∧ Ks w' K Q B a T P V dv D (G.set q x) W) ∧ (alB W g.A = false → ∃ a', Ks w' K Q B a' T (P ++ [⟨id, q, g.s + 1, m, g.z⟩]) (V ++ [R.1]) dv D (G.set q { g with s := g.s + 1 }) W))) ∧ Kq (KQ K Q) w w' := by
  have HB := hide ((Blks.nil w).more (.cells #[.int .i64 id] 3) (by simp))
  have HK := hide (hK.below HB.out.2.2)
  have hql := (List.getElem?_eq_some_iff.1 hq).1
  have hi1 : (0 : Int) ≤ (q : Int) := by omega
  have hi2 : (q : Int) < (G.length : Int) := by omega
  have hgate : wi (q : Int) 0 2 = true := by simp [wi]; omega
  have hadd := own_addrZ Q (q * 8)
  have HN := hide (fun X (h : Ks X K Q B a T P V dv D G W) => led_any a.o1 a.o2 a.o3 T.length a.c1 P.length a.c2 V.length a.c3 dv a.od D.length a.cd (some ⟨Q, 0, none⟩) G.length a.cg a.ov a.cv W X h.kl.vws.1.ats hlW)
  have HIx := hide (fun X (h : Ks X K Q B a T P V dv D G W) (h' : Blks w X [.cells #[.int .i64 id] 3]) => indexKT_any w.heap.size id T a.o1 a.c1 X h.kl.tik.1.ats hl.1 (h'.cell 0 0 w.heap.size _ _ _ rfl rfl rfl))
  have Hq := hide hq
  clear hK hq
  have k0 := HK.out.c0
  have k1 := HK.out.c1
  have k2 := HK.out.c2
  have k3 := HK.out.c3
  have k4 := HK.out.c4
  have k5 := HK.out.c5
  have k6 := HK.out.c6
  obtain ⟨R, hR⟩ : ∃ R, R = tapK T P V dv D W g.p id q m := ⟨_, rfl⟩
  have hRR := hR
  rw [tapK] at hRR
  obtain ⟨TI, hTI⟩ : ∃ TI : TK, TI = T.getD (idxT T id).toNat tk0 := ⟨_, rfl⟩
  rw [← hTI] at hRR ⊢
  by_cases hx : idxT T id < 0
  · rw [if_pos hx] at hRR
    have hR5 := hide (hR.symm.trans hRR)
    generalize idxT T id = ix at *
    clear hR hRR hTI
    go_enter Tryz.func51, Tryz.ntmps51
    go_wp2_with fail
    refine (isGate_any _ _).mono ?_
    rintro e w1 ⟨rfl, hw⟩
    obtain rfl := hw.symm
    rw [hgate]
    go_wp2_with fail
    refine (HIx.out _ HK.out HB.out).mono ?_
    rintro e w1 ⟨rfl, hb⟩
    have HB1 := hide (HB.out.on hb)
    have HK1 := hide (HK.out.below hb)
    clear hb HB HK HIx k0 k1 k2 k3 k4 k5 k6
    go_wp2_with fail
    go_ret2
    exact ⟨⟨(0, 5), hR5.out.symm, rfl, fun _ => HK1.out, fun h => absurd h (by decide)⟩, .ofBelow HB1.out.2.2⟩
  · rw [if_neg hx] at hRR
    obtain ⟨k, t, hk, ht⟩ := idxT_at hx
    have hti : TI = t := by rw [hTI, hk]; simp [List.getD, ht]
    have hkl := (List.getElem?_eq_some_iff.1 ht).1
    have hk1 : (0 : Int) ≤ (k : Int) := by omega
    have hk2 : (k : Int) < (T.length : Int) := by omega
    rw [hk] at HIx
    have HT := hide hti
    have HTk := hide ht
    rw [hti] at hRR
    clear hx hTI hti ht hk
    cases hal : alB W g.A
    · have hA0 : g.A.length = 0 := by
        rw [alB] at hal
        cases h : g.A with
        | nil => rfl
        | cons x L => rw [h] at hal; simp at hal
      have hnw : nowB W = true := by
        rw [alB] at hal
        cases h : nowB W with
        | true => rfl
        | false => rw [h] at hal; simp at hal
      have hg0 : ¬ 0 < g.A.length := by omega
      have hR' : R = entK T P V dv D q g.z g.s id m := by
        rw [hRR, if_neg (show ¬ alB W g.p.A = true by show ¬ alB W g.A = true; rw [hal]; decide)]
        rfl
      have HR := hide (hR.symm.trans hR')
      rw [hnw] at HN
      clear hR hRR hR' hnw hA0
      go_enter Tryz.func51, Tryz.ntmps51
      go_wp2_with fail
      refine (isGate_any _ _).mono ?_
      rintro e w1 ⟨rfl, hw⟩
      obtain rfl := hw.symm
      rw [hgate]
      go_wp2_with fail
      refine (HIx.out _ HK.out HB.out).mono ?_
      rintro e w1 ⟨rfl, hb⟩
      have HB1 := hide (HB.out.on hb)
      have HK1 := hide (HK.out.below hb)
      clear hb HB HK HIx k0 k1 k2 k3 k4 k5 k6
      have g3 := HK1.out.g3 Hq.out
      have k0 := HK1.out.c0
      have k1 := HK1.out.c1
      have k2 := HK1.out.c2
      have k3 := HK1.out.c3
      have k4 := HK1.out.c4
      have k5 := HK1.out.c5
      have k6 := HK1.out.c6
      go_wp2_with fail
      refine (HN.out _ HK1.out).mono ?_
      rintro e w2 ⟨rfl, hb⟩
      have HB2 := hide (HB1.out.on hb)
      have HK2 := hide (HK1.out.below hb)
      clear hb HB1 HK1 HN k0 k1 k2 k3 k4 k5 k6
      have k5 := HK2.out.c5
      clear g3
      have g3 := HK2.out.g3 Hq.out
      have b0 := HB2.out.cell 0 0 w.heap.size _ _ _ rfl rfl rfl
      go_wp2_with fail
      refine (keeperEnter_any K Q B a T P V dv D G W q g id m _ HK2.out Hq.out hl hlD hs0 hs1).mono ?_
      rintro e w3 ⟨⟨R', hE, rfl, h1, h2⟩, hf⟩
      have HE := hide hE
      have H12 := hide (And.intro h1 h2)
      have HF := hide ((Kq.ofBelow HB2.out.2.2).trans hf)
      clear hE h1 h2 hf HB2 HK2 k5 g3 b0
      go_wp2_with fail
      go_ret2
      exact ⟨⟨R', by rw [HR.out, HE.out], rfl, H12.out.1, fun h => ⟨fun h' => (by cases h'), fun _ => H12.out.2 h⟩⟩, HF.out⟩
    · have hR' : R = (0, tapG g.i g.z g.s g.A g.v g.D g.l g.u t m) := by
        rw [hRR, if_pos (show alB W g.p.A = true from hal)]
        rfl
      have HR := hide (hR.symm.trans hR')
      clear hR hRR hR'
      cases hnw : nowB W
      · rw [hnw] at HN
        clear hnw
        go_enter Tryz.func51, Tryz.ntmps51
        go_wp2_with fail
        refine (isGate_any _ _).mono ?_
        rintro e w1 ⟨rfl, hw⟩
        obtain rfl := hw.symm
        rw [hgate]
        go_wp2_with fail
        refine (HIx.out _ HK.out HB.out).mono ?_
        rintro e w1 ⟨rfl, hb⟩
        have HB1 := hide (HB.out.on hb)
        have HK1 := hide (HK.out.below hb)
        clear hb HB HK HIx k0 k1 k2 k3 k4 k5 k6
        have k0 := HK1.out.c0
        have k1 := HK1.out.c1
        have k2 := HK1.out.c2
        have k3 := HK1.out.c3
        have k4 := HK1.out.c4
        have k5 := HK1.out.c5
        have k6 := HK1.out.c6
        go_wp2_with fail
        refine (HN.out _ HK1.out).mono ?_
        rintro e w2 ⟨rfl, hb⟩
        have HB2 := hide (HB1.out.on hb)
        have HK2 := hide (HK1.out.below hb)
        clear hb HB1 HK1 HN k0 k1 k2 k3 k4 k5 k6
        obtain ⟨A, hA, c0, c1, c2, c3, c4, c5⟩ := HK2.out.kl.tik.1.ats k t HTk.out
        have k0 := HK2.out.c0
        rw [hA] at k0
        go_wp2_with fail
        refine (letThrough_any K Q B a T P V dv D G W q g t.i t.k t.f t.t t.z t.r m _ HK2.out Hq.out hlA hlgD).mono ?_
        rintro e w3 ⟨⟨E, hE, rfl, h1, h2⟩, hf⟩
        have HE := hide hE
        have H12 := hide (And.intro h1 h2)
        have HF := hide ((Kq.ofBelow HB2.out.2.2).trans hf)
        clear hE h1 h2 hf HB2 HK2 hA k0 c0 c1 c2 c3 c4 c5
        go_wp2_with fail
        go_ret2
        refine ⟨⟨(0, E), by rw [HR.out, HE.out], rfl, H12.out.1, fun h => ⟨fun _ => ?_, fun h' => (by cases h')⟩⟩, HF.out⟩
        obtain ⟨x, hx, hk⟩ := H12.out.2 h
        exact ⟨x, by rw [hx, HT.out], hk⟩
      · have hg0 : 0 < g.A.length := by
          rw [alB, hnw] at hal
          cases h : g.A with
          | nil => rw [h] at hal; simp at hal
          | cons x L => simp
        rw [hnw] at HN
        clear hnw
        go_enter Tryz.func51, Tryz.ntmps51
        go_wp2_with fail
        refine (isGate_any _ _).mono ?_
        rintro e w1 ⟨rfl, hw⟩
        obtain rfl := hw.symm
        rw [hgate]
        go_wp2_with fail
        refine (HIx.out _ HK.out HB.out).mono ?_
        rintro e w1 ⟨rfl, hb⟩
        have HB1 := hide (HB.out.on hb)
        have HK1 := hide (HK.out.below hb)
        clear hb HB HK HIx k0 k1 k2 k3 k4 k5 k6
        have k0 := HK1.out.c0
        have k1 := HK1.out.c1
        have k2 := HK1.out.c2
        have k3 := HK1.out.c3
        have k4 := HK1.out.c4
        have k5 := HK1.out.c5
        have k6 := HK1.out.c6
        go_wp2_with fail
        refine (HN.out _ HK1.out).mono ?_
        rintro e w2 ⟨rfl, hb⟩
        have HB2 := hide (HB1.out.on hb)
        have HK2 := hide (HK1.out.below hb)
        clear hb HB1 HK1 HN k0 k1 k2 k3 k4 k5 k6
        obtain ⟨A, hA, c0, c1, c2, c3, c4, c5⟩ := HK2.out.kl.tik.1.ats k t HTk.out
        have k0 := HK2.out.c0
        rw [hA] at k0
        have k5 := HK2.out.c5
        have g3 := HK2.out.g3 Hq.out
        go_wp2_with fail
        refine (letThrough_any K Q B a T P V dv D G W q g t.i t.k t.f t.t t.z t.r m _ HK2.out Hq.out hlA hlgD).mono ?_
        rintro e w3 ⟨⟨E, hE, rfl, h1, h2⟩, hf⟩
        have HE := hide hE
        have H12 := hide (And.intro h1 h2)
        have HF := hide ((Kq.ofBelow HB2.out.2.2).trans hf)
        clear hE h1 h2 hf HB2 HK2 hA k0 c0 c1 c2 c3 c4 c5 k5 g3
        go_wp2_with fail
        go_ret2
        refine ⟨⟨(0, E), by rw [HR.out, HE.out], rfl, H12.out.1, fun h => ⟨fun _ => ?_, fun h' => (by cases h')⟩⟩, HF.out⟩
        obtain ⟨x, hx, hk⟩ := H12.out.2 h
        exact ⟨x, by rw [hx, HT.out], hk⟩
end Go.Proofs.YtcjfmbeemdcklaaGreat

/-
  'Tap' (package station).
-/
namespace Go.Proofs.YtcjfmbeemdcklaaGreat
open Go.RowKit
def gp0 : GP := ⟨0, 0, 0, [], 0, [], 0, 0⟩
def gAt (L : List GP) (n : Int) : GP := L.getD n.toNat gp0
def gTap (W : List VW) (g : GP) (t : TK) (m : Int) : GP := if alB W g.A = true then ⟨g.i, g.z, g.s + 1, g.A ++ [⟨t.i, g.i, g.s + 1, m, g.z⟩], g.v, g.D, g.l - 1, g.u⟩ else { g with s := g.s + 1 }
def pTap (W : List VW) (g : GP) (P : List TP) (id n m : Int) : List TP := if alB W g.A = true then P else P ++ [⟨id, n, g.s + 1, m, g.z⟩]
def vTap (W : List VW) (g : GP) (V : List Int) (v : Int) : List Int := if alB W g.A = true then V else V ++ [v]
def tAt (T : List TK) (id : Int) : TK := T.getD (idxT T id).toNat tk0
def tapR (T : List TK) (P : List TP) (V : List Int) (dv : Int) (D : List Int) (L : List GP) (W : List VW) (id n m : Int) : Int × Int := if wi n 0 2 = false then (0, 3) else tapK T P V dv D W (gAt L n) id n m
def tapS (T : List TK) (P : List TP) (V : List Int) (dv : Int) (D : List Int) (G : List GT) (W : List VW) (id n m : Int) : Int × Int := if chkS T P V dv D G W = 0 then tapR T P V dv D (G.map GT.p) W id n m else (0, chkS T P V dv D G W)
theorem gAt_map {G : List GT} {q : Nat} {g : GT} (h : G[q]? = some g) : gAt (G.map GT.p) q = g.p := by
  simp [gAt, List.getD, List.getElem?_map, h]
set_option maxHeartbeats 6400000 in
set_option maxRecDepth 100000 in
theorem tap1_any (K Q B : Nat) (a : KA) (T : List TK) (P : List TP) (V : List Int) (dv : Int) (D : List Int) (G : List GT) (W : List VW) (b1 b2 b3 vb : Nat) (id n m v0 : Int) (w : World) (hK : Ks w K Q B a T P V dv D G W) (hG : G.length = 3) (hg : ∀ (q : Nat) g, G[q]? = some g → g.A.length ≤ 12 ∧ g.D.length ≤ 12 ∧ 0 ≤ g.s ∧ g.s ≤ 99) (hl : LensOk T P V) (hlD : D.length ≤ 12) (hlW : W.length ≤ 9223372036854775807)
    (h1 : w.heap[b1]? = some (.cells #[.int .i64 id] 3)) (h2 : w.heap[b2]? = some (.cells #[.int .i64 n] 3)) (h3 : w.heap[b3]? = some (.cells #[.int .i64 m] 3)) (hv : w.heap[vb]? = some (.cells #[.int .i64 v0] 3)) (hvb : vb < B) :
    Calls Tryz.prog 50 #[.pointer (some ⟨K, 0, none⟩), .pointer (some ⟨b1, 0, none⟩), .pointer (some ⟨b2, 0, none⟩), .pointer (some ⟨b3, 0, none⟩), .pointer (some ⟨vb, 0, none⟩)] w fun e w' => ∃ R : Int × Int, R = tapR T P V dv D (G.map GT.p) W id n m ∧ e = .returned (.int .i64 R.2) ∧ w'.heap[vb]? = some (.cells #[.int .i64 R.1] 3) ∧ Kq (fun k => k = K ∨ k = Q ∨ k = vb) w w' ∧ (R.2 ≠ 0 → Ks w' K Q B a T P V dv D G W) ∧
      (R.2 = 0 → ∃ a' G', Ks w' K Q B a' T (pTap W (gAt (G.map GT.p) n) P id n m) (vTap W (gAt (G.map GT.p) n) V R.1) dv D G' W ∧ G'.map GT.p = (G.map GT.p).set n.toNat (gTap W (gAt (G.map GT.p) n) (tAt T id) m) ∧ ∀ (q : Nat) g, G'[q]? = some g → g.A.length ≤ 13 ∧ g.D.length ≤ 12) := by
  have hbk := hK.bk
  have hbq := hK.qlt
  have r1 := cell_of_row _ _ 0 _ _ _ h1
  have r2 := cell_of_row _ _ 0 _ _ _ h2
  have r3 := cell_of_row _ _ 0 _ _ _ h3
  simp at r1 r2 r3
  have HV := hide hv
  cases hn : wi n 0 2
  · have HC := hide (keeperTap_range K id n m w hn)
    have HR : Hid (((0, 3) : Int × Int) = tapR T P V dv D (G.map GT.p) W id n m) := hide (by rw [tapR, if_pos hn])
    have HK := hide hK
    clear hK hv h1 h2 h3 hg hG
    go_enter Tryz.func50, Tryz.ntmps50
    go_wp2_with fail
    refine HC.out.mono ?_
    rintro e w1 ⟨rfl, hb⟩
    have HB := hide hb
    have hv1 := at_below HV.out hb
    have HV1 := hide hv1
    have rv := cell_of_row _ _ 0 _ _ _ hv1
    have sv := frozen_of_row _ _ 0 _ _ hv1
    simp at rv
    clear hb hv1 HC r1 r2 r3
    go_wp2_with fail
    go_ret
    exact ⟨(0, 3), HR.out, rfl, heap_setCell_same _ vb 0 _ _ _ HV1.out, (Kq.ofBelow HB.out).setCell (p := ⟨vb, 0, none⟩) (.inr (.inr rfl)) _, fun _ => (HK.out.below HB.out).setB (p := ⟨vb, 0, none⟩) hvb _, fun h => absurd h (by decide)⟩
  · have hnn : 0 ≤ n ∧ n ≤ 2 := (wi_iff n 0 2).1 hn
    obtain ⟨q, rfl⟩ : ∃ q : Nat, n = (q : Int) := ⟨n.toNat, by omega⟩
    have hq3 : q < 3 := by omega
    obtain ⟨g, hgq⟩ : ∃ g, G[q]? = some g := ⟨G[q]'(by omega), by simp⟩
    obtain ⟨hA, hgD, hs0, hs1⟩ := hg q g hgq
    have HC := hide (keeperTap_any K Q B a T P V dv D G W q g id m w hK hgq hq3 hl (by omega) (by omega) (by omega) hlW hs0 hs1)
    have hgp := gAt_map hgq
    have HGP := hide hgp
    have HGQ := hide hgq
    have HGL := hide (fun (x : GT) (hx : x.A.length ≤ 13 ∧ x.D.length ≤ 12) (k : Nat) (y : GT) (hy : (G.set q x)[k]? = some y) => show y.A.length ≤ 13 ∧ y.D.length ≤ 12 from by
      rw [List.getElem?_set] at hy
      split at hy
      · split at hy
        · cases hy; exact hx
        · cases hy
      · have := hg k y hy
        omega)
    clear hK hv h1 h2 h3 hg hgp hgq hG hnn
    go_enter Tryz.func50, Tryz.ntmps50
    go_wp2_with fail
    refine HC.out.mono ?_
    rintro e w1 ⟨⟨R, hR, rfl, hk1, hk2⟩, hkq⟩
    have HKQ := hide hkq
    have HR := hide hR
    have H12 := hide (And.intro hk1 hk2)
    have hv1 := hkq.obj HV.out (fun h => by rcases h with h | h <;> omega)
    have HV1 := hide hv1
    have rv := cell_of_row _ _ 0 _ _ _ hv1
    have sv := frozen_of_row _ _ 0 _ _ hv1
    simp at rv
    clear hkq hR hk1 hk2 hv1 HC r1 r2 r3
    go_wp2_with fail
    go_ret
    refine ⟨R, by rw [HR.out, tapR, if_neg (by rw [hn]; decide), HGP.out], rfl, heap_setCell_same _ vb 0 _ _ _ HV1.out, (HKQ.out.mono (fun k _ h => h.elim .inl (fun h => .inr (.inl h)))).setCell (p := ⟨vb, 0, none⟩) (.inr (.inr rfl)) _, fun h => (H12.out.1 h).setB (p := ⟨vb, 0, none⟩) hvb _, fun h => ?_⟩
    obtain ⟨ha, hb⟩ := H12.out.2 h
    rw [HGP.out]
    have hgA : g.p.A = g.A := rfl
    have hset : ∀ x : GT, (G.set q x).map GT.p = (G.map GT.p).set q x.p := fun x => List.map_set
    cases hal : alB W g.A
    · obtain ⟨a', hk⟩ := hb hal
      refine ⟨a', _, ?_, ?_, HGL.out { g with s := g.s + 1 } (by simp only []; omega)⟩
      · rw [pTap, vTap, hgA, hal]
        exact hk.setB (p := ⟨vb, 0, none⟩) hvb _
      · rw [hset, gTap, hgA, hal]
        rfl
    · obtain ⟨x, hx, hk⟩ := ha hal
      have hxA : x.A.length = g.A.length + 1 := by have := congrArg (fun y => y.A.length) hx; simpa [GT.p] using this
      have hxD : x.D = g.D := congrArg GP.D hx
      refine ⟨a, _, ?_, ?_, HGL.out x (by rw [hxD]; omega)⟩
      · rw [pTap, vTap, hgA, hal]
        exact hk.setB (p := ⟨vb, 0, none⟩) hvb _
      · rw [hset, gTap, hgA, hal, hx]
        rfl
set_option maxRecDepth 100000 in
theorem enterT1 (args : Array Value) (W : World) : (callFunc 50 args).run Tryz.prog W = .ok (.enter 50 args) W := by
  simp [go_sem]
set_option maxHeartbeats 12800000 in
set_option maxRecDepth 100000 in
theorem stationTap_any (T : List TK) (P : List TP) (V : List Int) (dv : Int) (D : List Int) (G : List GT) (W : List VW) (o1 o2 o3 od og ov : Option Addr) (c1 c2 c3 cd cg cv : Nat) (id n m : Int) (w : World) (hs : StW w o1 o2 o3 c1 c2 c3 T P V od cd D og cg G ov cv W) :
    Calls Tryz.prog 13 #[stV o1 o2 o3 T.length c1 P.length c2 V.length c3 dv od D.length cd og G.length cg ov W.length cv, .int .i64 id, .int .i64 n, .int .i64 m] w fun e w' => (∃ v R, R = tapS T P V dv D G W id n m ∧ e = .returned (.tuple #[v, .int .i64 R.1, .int .i64 R.2]) ∧ (R.2 ≠ 0 → v = stV none none none 0 0 0 0 0 0 0 none 0 0 none 0 0 none 0 0) ∧
      (R.2 = 0 → ∃ G', G'.map GT.p = (G.map GT.p).set n.toNat (gTap W (gAt (G.map GT.p) n) (tAt T id) m) ∧ StR w' w.heap.size v T (pTap W (gAt (G.map GT.p) n) P id n m) (vTap W (gAt (G.map GT.p) n) V R.1) dv D G' W)) ∧ Below w.heap.size w w' := by
  have HB := hide (((((((Blks.nil w).more (.cells #[.slice o1 T.length c1, .slice o2 P.length c2, .slice o3 V.length c3, .int .i64 dv, .slice od D.length cd, .slice og G.length cg, .slice ov W.length cv] 32) (by simp)).more (.cells #[.int .i64 id] 3) (by simp)).more (.cells #[.int .i64 n] 3) (by simp)).more (.cells #[.int .i64 m] 3) (by simp)).more (.cells #[.slice none 0 0, .slice none 0 0, .slice none 0 0, .int .i64 0, .slice none 0 0, .slice none 0 0, .slice none 0 0] 32) (by simp)).more (.cells #[.int .i64 0] 3) (by simp))
  have HS := hide (hs.below HB.out.2.2)
  have hz : ((((((w.alloc (.cells #[.slice o1 T.length c1, .slice o2 P.length c2, .slice o3 V.length c3, .int .i64 dv, .slice od D.length cd, .slice og G.length cg, .slice ov W.length cv] 32)).alloc (.cells #[.int .i64 id] 3)).alloc (.cells #[.int .i64 n] 3)).alloc (.cells #[.int .i64 m] 3)).alloc (.cells #[.slice none 0 0, .slice none 0 0, .slice none 0 0, .int .i64 0, .slice none 0 0, .slice none 0 0, .slice none 0 0] 32)).alloc (.cells #[.int .i64 0] 3)).heap.size = w.heap.size + 1 + 1 + 1 + 1 + 1 + 1 := by simp
  obtain ⟨R, hR⟩ : ∃ R, R = tapS T P V dv D G W id n m := ⟨_, rfl⟩
  have hR0 : chkS T P V dv D G W = 0 → R = tapR T P V dv D (G.map GT.p) W id n m := fun h => by rw [hR, tapS, if_pos h]
  have hRE : chkS T P V dv D G W ≠ 0 → R = (0, chkS T P V dv D G W) := fun h => by rw [hR, tapS, if_neg h]
  have HC := hide (changed_any 50 #[.pointer (some ⟨w.heap.size + 1, 0, none⟩), .pointer (some ⟨w.heap.size + 1 + 1, 0, none⟩), .pointer (some ⟨w.heap.size + 1 + 1 + 1, 0, none⟩), .pointer (some ⟨w.heap.size + 1 + 1 + 1 + 1 + 1, 0, none⟩)] enterT1 (fun k => k = w.heap.size + 1 + 1 + 1 + 1 + 1) T P V dv D G W o1 o2 o3 od og ov c1 c2 c3 cd cg cv _ HS.out (fun k h => by rw [h]; simp)
    (fun E X => E = R.2 ∧ X.heap[w.heap.size + 1 + 1 + 1 + 1 + 1]? = some (.cells #[.int .i64 R.1] 3)) (fun _ T' P' V' dv' D' G' W' X => R.2 = 0 ∧ X.heap[w.heap.size + 1 + 1 + 1 + 1 + 1]? = some (.cells #[.int .i64 R.1] 3) ∧ T' = T ∧ P' = pTap W (gAt (G.map GT.p) n) P id n m ∧ V' = vTap W (gAt (G.map GT.p) n) V R.1 ∧ dv' = dv ∧ D' = D ∧ G'.map GT.p = (G.map GT.p).set n.toNat (gTap W (gAt (G.map GT.p) n) (tAt T id) m) ∧ W' = W)
    (fun _ _ p u hp h => ⟨h.1, heap_setO h.2 (by rw [hp]; simp; try omega) u⟩) (fun _ _ _ _ _ _ _ _ _ p u hp h => ⟨h.1, heap_setO h.2.1 (by rw [hp]; simp; try omega) u, h.2.2⟩) (fun h0 w1 K Q a G' hm hk hb => by
      obtain ⟨p1, p2, p3, p4, -, p6⟩ := chkS_right h0
      have hl3 : G'.length = 3 := by have := congrArg List.length hm; simp at this; omega
      have hgl := gates_lens p4 hm
      refine (tap1_any K Q _ a T P V dv D G' W (w.heap.size + 1) (w.heap.size + 1 + 1) (w.heap.size + 1 + 1 + 1) (w.heap.size + 1 + 1 + 1 + 1 + 1) id n m 0 w1 hk hl3 hgl (LensOk.of p1) (chkD_right p2).2.2.1 (by omega) (at_below (HB.out.1 1 _ rfl) hb) (at_below (HB.out.1 2 _ rfl) hb) (at_below (HB.out.1 3 _ rfl) hb) (at_below (HB.out.1 5 _ rfl) hb) (by simp; try omega)).mono ?_
      rintro e w2 ⟨R', hR', rfl, hv, hkq, he, ho⟩
      rw [hm] at hR' ho
      have hRR : R' = R := by rw [hR', hR0 h0]
      subst hRR
      refine ⟨_, rfl, hkq, fun _ => ⟨rfl, hv⟩, fun h => ?_⟩
      obtain ⟨a', G'', hk', hm', hl'⟩ := ho h
      refine ⟨a', _, _, _, _, _, G'', _, hk', ?_, h, hv, rfl, rfl, rfl, rfl, rfl, hm', rfl⟩
      have h1 := gates_lnS h0 hm
      obtain ⟨q1, q2, q3, -, -⟩ := chkL_right p1
      refine ⟨⟨by omega, ?_, ?_⟩, h1.2.1, fun g hg => ?_, ?_, by omega⟩
      · unfold pTap
        split
        · omega
        · simp; omega
      · unfold vTap
        split
        · omega
        · simp; omega
      · obtain ⟨i, hi⟩ := List.mem_iff_getElem?.1 hg
        have := hl' i g hi
        exact ⟨by omega, by omega⟩
      · have := congrArg List.length hm'
        simp at this
        omega))
  rw [hz] at HC
  have HR0 := hide (And.intro hR0 hRE)
  have HR := hide hR
  clear hs hz hR0 hRE hR
  obtain ⟨k0, k1, k2, k3, k4, k5, k6⟩ := HB.out.c7 0 w.heap.size rfl rfl rfl rfl rfl rfl rfl rfl rfl
  go_enter Tryz.func13, Tryz.ntmps13
  go_wp2_with fail
  refine HC.out.mono ?_
  rintro e w1 ⟨⟨v, E', rfl, h1, h2, h3⟩, hkq⟩
  have hEE : E' = R.2 ∧ w1.heap[w.heap.size + 1 + 1 + 1 + 1 + 1]? = some (.cells #[.int .i64 R.1] 3) := by
    by_cases h0 : chkS T P V dv D G W = 0
    · by_cases hE0 : E' = 0
      · obtain ⟨a, T', P', V', dv', D', G', W', -, hk, hv, -⟩ := (h3 h0).2 hE0
        exact ⟨by rw [hE0, hk], hv⟩
      · exact (h3 h0).1 hE0
    · have he := h1 h0
      have hr := HR0.out.2 h0
      rw [hr]
      refine ⟨he.1, ?_⟩
      exact (he.2.block _ (by omega)).trans (HB.out.1 5 _ rfl)
  obtain ⟨hE1, hV1⟩ := hEE
  subst hE1
  have h4 : R.2 = 0 → ∃ G', G'.map GT.p = (G.map GT.p).set n.toNat (gTap W (gAt (G.map GT.p) n) (tAt T id) m) ∧ StR w1 (w.heap.size + 1 + 1 + 1 + 1 + 1 + 1 + 1 + 1) v T (pTap W (gAt (G.map GT.p) n) P id n m) (vTap W (gAt (G.map GT.p) n) V R.1) dv D G' W := by
    intro h0
    by_cases hc : chkS T P V dv D G W = 0
    · obtain ⟨a, T', P', V', dv', D', G', W', hr, -, -, rfl, rfl, rfl, rfl, rfl, hm, rfl⟩ := (h3 hc).2 h0
      exact ⟨G', hm, hr⟩
    · have := (h1 hc).1
      omega
  have hv : ∃ x1 x2 x3 n1 y1 n2 y2 n3 y3 xv x4 n4 y4 x5 n5 y5 x6 n6 y6, v = stV x1 x2 x3 n1 y1 n2 y2 n3 y3 xv x4 n4 y4 x5 n5 y5 x6 n6 y6 := by
    by_cases h0 : R.2 = 0
    · obtain ⟨G', -, hr⟩ := h4 h0
      exact hr.form
    · exact ⟨_, _, _, _, _, _, _, _, _, _, _, _, _, _, _, _, _, _, _, h2 h0⟩
  obtain ⟨x1, x2, x3, n1, y1, n2, y2, n3, y3, xv, x4, n4, y4, x5, n5, y5, x6, n6, y6, rfl⟩ := hv
  have H2 := hide h2
  have H4 := hide h4
  have HV1 := hide hV1
  have HZ1 := hide (hkq.obj (HB.out.1 4 _ rfl) (by omega))
  have hkb := hkq.below (B := w.heap.size) (by have := HB.out.2.2.size; exact this) (fun k hk h => by omega)
  have HBw := hide (HB.out.2.2.trans hkb)
  have hsz : w.heap.size + 1 + 1 + 1 + 1 + 1 + 1 ≤ w1.heap.size := by have := hkq.size; simp at this; omega
  clear h1 h2 h3 h4 hV1 hkq hkb HB HS HC HR0 k0 k1 k2 k3 k4 k5 k6
  have HA := hide ((Below.refl w1.heap.size w1).alloc (Nat.le_refl _) (.cells #[.slice x1 n1 y1, .slice x2 n2 y2, .slice x3 n3 y3, .int .i64 xv, .slice x4 n4 y4, .slice x5 n5 y5, .slice x6 n6 y6] 32))
  have HN := hide (heap_alloc_new w1 (.cells #[.slice x1 n1 y1, .slice x2 n2 y2, .slice x3 n3 y3, .int .i64 xv, .slice x4 n4 y4, .slice x5 n5 y5, .slice x6 n6 y6] 32))
  have HV2 := hide (at_below HV1.out HA.out)
  have HZ2 := hide (at_below HZ1.out HA.out)
  have HB2 := hide (HBw.out.trans (HA.out.mono (by omega)))
  have H42 := hide (fun h => (H4.out h).imp fun _ hm => And.intro hm.1 (hm.2.below HA.out))
  clear HV1 HZ1 HBw H4
  go_upto_region 3 with fail
  generalize w1.alloc (.cells #[.slice x1 n1 y1, .slice x2 n2 y2, .slice x3 n3 y3, .int .i64 xv, .slice x4 n4 y4, .slice x5 n5 y5, .slice x6 n6 y6] 32) = w2 at *
  refine wp_region_reads (fun w' => w'.heap[w1.heap.size]? = some (.cells #[.slice x1 n1 y1, .slice x2 n2 y2, .slice x3 n3 y3, .int .i64 xv, .slice x4 n4 y4, .slice x5 n5 y5, .slice x6 n6 y6] 32) ∧ w'.heap[w.heap.size + 1 + 1 + 1 + 1 + 1]? = some (.cells #[.int .i64 R.1] 3)) [0, 1, 2] 3 (by rfl) (by kernel_rfl) (by kernel_rfl) (by kernel_rfl) (fun c d v a w h => by cases d <;> exact h) ?_ ?_
  · exact ⟨at_below HN.out (Below.refl _ _).drew, at_below HV2.out (Below.refl _ _).drew⟩
  refine wpPureH_step (stV x1 x2 x3 n1 y1 n2 y2 n3 y3 xv x4 n4 y4 x5 n5 y5 x6 n6 y6) rfl rfl (fun w' hS => ?_) ?_
  · have q0 : w'.cell? ⟨w1.heap.size, 0, none⟩ = some (.slice x1 n1 y1) := by rw [cell_of_row _ _ 0 _ _ _ hS.1]; rfl
    have q1 : w'.cell? ⟨w1.heap.size, 1, none⟩ = some (.slice x2 n2 y2) := by rw [cell_of_row _ _ 1 _ _ _ hS.1]; rfl
    have q2 : w'.cell? ⟨w1.heap.size, 2, none⟩ = some (.slice x3 n3 y3) := by rw [cell_of_row _ _ 2 _ _ _ hS.1]; rfl
    have q3 : w'.cell? ⟨w1.heap.size, 3, none⟩ = some (.int .i64 xv) := by rw [cell_of_row _ _ 3 _ _ _ hS.1]; rfl
    have q4 : w'.cell? ⟨w1.heap.size, 4, none⟩ = some (.slice x4 n4 y4) := by rw [cell_of_row _ _ 4 _ _ _ hS.1]; rfl
    have q5 : w'.cell? ⟨w1.heap.size, 5, none⟩ = some (.slice x5 n5 y5) := by rw [cell_of_row _ _ 5 _ _ _ hS.1]; rfl
    have q6 : w'.cell? ⟨w1.heap.size, 6, none⟩ = some (.slice x6 n6 y6) := by rw [cell_of_row _ _ 6 _ _ _ hS.1]; rfl
    go_simp
  refine wpPureH_step (.int .i64 R.1) rfl rfl (fun w' hS => ?_) ?_
  · have q0 : w'.cell? ⟨w.heap.size + 1 + 1 + 1 + 1 + 1, 0, none⟩ = some (.int .i64 R.1) := by rw [cell_of_row _ _ 0 _ _ _ hS.2]; rfl
    go_simp
  refine wpPureH_step (.int .i64 R.2) rfl rfl (fun w' _ => by go_simp) ?_
  refine wpPureH_nil ?_
  have HNd := hide (at_below HN.out (Below.refl _ _).drew)
  have HVd := hide (at_below HV2.out (Below.refl _ _).drew)
  have HZd := hide (at_below HZ2.out (Below.refl _ _).drew)
  have HBd := hide HB2.out.drew
  have H4d := hide (fun h => (H42.out h).imp fun _ hm => And.intro hm.1 (hm.2.below (Below.refl _ _).drew))
  clear HN HV2 HZ2 HB2 H42 HA
  generalize (World.drew _) = w3 at *
  have r0 := cell_of_row _ _ 0 _ _ _ HZd.out
  have s0 := frozen_of_row _ _ 0 _ _ HZd.out
  have r1 := cell_of_row _ _ 1 _ _ _ HZd.out
  have s1 := frozen_of_row _ _ 1 _ _ HZd.out
  have r2 := cell_of_row _ _ 2 _ _ _ HZd.out
  have s2 := frozen_of_row _ _ 2 _ _ HZd.out
  have r3 := cell_of_row _ _ 3 _ _ _ HZd.out
  have s3 := frozen_of_row _ _ 3 _ _ HZd.out
  have r4 := cell_of_row _ _ 4 _ _ _ HZd.out
  have s4 := frozen_of_row _ _ 4 _ _ HZd.out
  have r5 := cell_of_row _ _ 5 _ _ _ HZd.out
  have s5 := frozen_of_row _ _ 5 _ _ HZd.out
  have r6 := cell_of_row _ _ 6 _ _ _ HZd.out
  have s6 := frozen_of_row _ _ 6 _ _ HZd.out
  simp at r0 r1 r2 r3 r4 r5 r6
  refine one_readyH (i := 3) (by kernel_rfl) rfl rfl (fun K hK => ?_)
  go_simp
  have HZ := hide (heap_setCell_same _ (w.heap.size + 1 + 1 + 1 + 1) 6 _ _ (.slice x6 n6 y6) (heap_setCell_same _ (w.heap.size + 1 + 1 + 1 + 1) 5 _ _ (.slice x5 n5 y5) (heap_setCell_same _ (w.heap.size + 1 + 1 + 1 + 1) 4 _ _ (.slice x4 n4 y4) (heap_setCell_same _ (w.heap.size + 1 + 1 + 1 + 1) 3 _ _ (.int .i64 xv) (heap_setCell_same _ (w.heap.size + 1 + 1 + 1 + 1) 2 _ _ (.slice x3 n3 y3) (heap_setCell_same _ (w.heap.size + 1 + 1 + 1 + 1) 1 _ _ (.slice x2 n2 y2) (heap_setCell_same _ (w.heap.size + 1 + 1 + 1 + 1) 0 _ _ (.slice x1 n1 y1) HZd.out)))))))
  have HBz := hide (((((((HBd.out.setCell (p := ⟨w.heap.size + 1 + 1 + 1 + 1, 0, none⟩) (by simp; try omega) (.slice x1 n1 y1)).setCell (p := ⟨w.heap.size + 1 + 1 + 1 + 1, 1, none⟩) (by simp; try omega) (.slice x2 n2 y2)).setCell (p := ⟨w.heap.size + 1 + 1 + 1 + 1, 2, none⟩) (by simp; try omega) (.slice x3 n3 y3)).setCell (p := ⟨w.heap.size + 1 + 1 + 1 + 1, 3, none⟩) (by simp; try omega) (.int .i64 xv)).setCell (p := ⟨w.heap.size + 1 + 1 + 1 + 1, 4, none⟩) (by simp; try omega) (.slice x4 n4 y4)).setCell (p := ⟨w.heap.size + 1 + 1 + 1 + 1, 5, none⟩) (by simp; try omega) (.slice x5 n5 y5)).setCell (p := ⟨w.heap.size + 1 + 1 + 1 + 1, 6, none⟩) (by simp; try omega) (.slice x6 n6 y6))
  have H4z := hide (fun h => (H4d.out h).imp fun _ hm => And.intro hm.1 (((((((hm.2.set (p := ⟨w.heap.size + 1 + 1 + 1 + 1, 0, none⟩) (by simp; try omega) (.slice x1 n1 y1)).set (p := ⟨w.heap.size + 1 + 1 + 1 + 1, 1, none⟩) (by simp; try omega) (.slice x2 n2 y2)).set (p := ⟨w.heap.size + 1 + 1 + 1 + 1, 2, none⟩) (by simp; try omega) (.slice x3 n3 y3)).set (p := ⟨w.heap.size + 1 + 1 + 1 + 1, 3, none⟩) (by simp; try omega) (.int .i64 xv)).set (p := ⟨w.heap.size + 1 + 1 + 1 + 1, 4, none⟩) (by simp; try omega) (.slice x4 n4 y4)).set (p := ⟨w.heap.size + 1 + 1 + 1 + 1, 5, none⟩) (by simp; try omega) (.slice x5 n5 y5)).set (p := ⟨w.heap.size + 1 + 1 + 1 + 1, 6, none⟩) (by simp; try omega) (.slice x6 n6 y6)))
  have HSn := hide (And.intro (heap_setO (heap_setO (heap_setO (heap_setO (heap_setO (heap_setO (heap_setO HNd.out (p := ⟨w.heap.size + 1 + 1 + 1 + 1, 0, none⟩) (by simp; try omega) (.slice x1 n1 y1)) (p := ⟨w.heap.size + 1 + 1 + 1 + 1, 1, none⟩) (by simp; try omega) (.slice x2 n2 y2)) (p := ⟨w.heap.size + 1 + 1 + 1 + 1, 2, none⟩) (by simp; try omega) (.slice x3 n3 y3)) (p := ⟨w.heap.size + 1 + 1 + 1 + 1, 3, none⟩) (by simp; try omega) (.int .i64 xv)) (p := ⟨w.heap.size + 1 + 1 + 1 + 1, 4, none⟩) (by simp; try omega) (.slice x4 n4 y4)) (p := ⟨w.heap.size + 1 + 1 + 1 + 1, 5, none⟩) (by simp; try omega) (.slice x5 n5 y5)) (p := ⟨w.heap.size + 1 + 1 + 1 + 1, 6, none⟩) (by simp; try omega) (.slice x6 n6 y6)) (heap_setO (heap_setO (heap_setO (heap_setO (heap_setO (heap_setO (heap_setO HVd.out (p := ⟨w.heap.size + 1 + 1 + 1 + 1, 0, none⟩) (by simp; try omega) (.slice x1 n1 y1)) (p := ⟨w.heap.size + 1 + 1 + 1 + 1, 1, none⟩) (by simp; try omega) (.slice x2 n2 y2)) (p := ⟨w.heap.size + 1 + 1 + 1 + 1, 2, none⟩) (by simp; try omega) (.slice x3 n3 y3)) (p := ⟨w.heap.size + 1 + 1 + 1 + 1, 3, none⟩) (by simp; try omega) (.int .i64 xv)) (p := ⟨w.heap.size + 1 + 1 + 1 + 1, 4, none⟩) (by simp; try omega) (.slice x4 n4 y4)) (p := ⟨w.heap.size + 1 + 1 + 1 + 1, 5, none⟩) (by simp; try omega) (.slice x5 n5 y5)) (p := ⟨w.heap.size + 1 + 1 + 1 + 1, 6, none⟩) (by simp; try omega) (.slice x6 n6 y6)))
  refine hK _ _ HSn.out ?_
  clear hK K HBd H4d HNd HVd HZd r0 r1 r2 r3 r4 r5 r6 s0 s1 s2 s3 s4 s5 s6
  generalize (((((((w3.setCell ⟨w.heap.size + 1 + 1 + 1 + 1, 0, none⟩ (.slice x1 n1 y1)).setCell ⟨w.heap.size + 1 + 1 + 1 + 1, 1, none⟩ (.slice x2 n2 y2)).setCell ⟨w.heap.size + 1 + 1 + 1 + 1, 2, none⟩ (.slice x3 n3 y3)).setCell ⟨w.heap.size + 1 + 1 + 1 + 1, 3, none⟩ (.int .i64 xv)).setCell ⟨w.heap.size + 1 + 1 + 1 + 1, 4, none⟩ (.slice x4 n4 y4)).setCell ⟨w.heap.size + 1 + 1 + 1 + 1, 5, none⟩ (.slice x5 n5 y5)).setCell ⟨w.heap.size + 1 + 1 + 1 + 1, 6, none⟩ (.slice x6 n6 y6)) = w5 at *
  refine one_readyH (i := 4) (by kernel_rfl) rfl rfl (fun K hK => ?_)
  go_simp
  refine hK _ _ HSn.out ?_
  clear hK K
  refine one_readyH (i := 5) (by kernel_rfl) rfl rfl (fun K hK => ?_)
  go_simp
  refine hK _ _ HSn.out ?_
  clear hK K
  refine wpAnyH_done (by kernel_rfl) ?_ _
  have g0 := cell_of_row _ _ 0 _ _ _ HZ.out
  have g1 := cell_of_row _ _ 1 _ _ _ HZ.out
  have g2 := cell_of_row _ _ 2 _ _ _ HZ.out
  have g3 := cell_of_row _ _ 3 _ _ _ HZ.out
  have g4 := cell_of_row _ _ 4 _ _ _ HZ.out
  have g5 := cell_of_row _ _ 5 _ _ _ HZ.out
  have g6 := cell_of_row _ _ 6 _ _ _ HZ.out
  simp at g0 g1 g2 g3 g4 g5 g6
  go_wp2_with fail
  exact bodyPost_ret (v := .tuple #[stV x1 x2 x3 n1 y1 n2 y2 n3 y3 xv x4 n4 y4 x5 n5 y5 x6 n6 y6, .int .i64 R.1, .int .i64 R.2]) (by simp [results, Tryz.results13, go_sem, g0, g1, g2, g3, g4, g5, g6]) rfl ⟨⟨_, R, HR.out, rfl, H2.out, fun h => (H4z.out h).imp fun _ hm => ⟨hm.1, hm.2.mono (by omega)⟩⟩, HBz.out⟩
end Go.Proofs.YtcjfmbeemdcklaaGreat

/-
  What follows of an id that was added, of lists.
-/
namespace Go.Proofs.YtcjfmbeemdcklaaGreat
open Go.RowKit
theorem addI_nil (id : Int) : addI [] id = [id] := by simp [addI, posI]
theorem addI_cons (x : Int) (L : List Int) (id : Int) : addI (x :: L) id = if id < x then id :: x :: L else x :: addI L id := by
  unfold addI posI
  by_cases h : id < x
  · rw [List.findIdx_cons]
    simp [h]
  · rw [List.findIdx_cons]
    simp [h]
theorem addI_len (L : List Int) (id : Int) : (addI L id).length = L.length + 1 := by
  induction L with
  | nil => rw [addI_nil]; rfl
  | cons x L ih =>
    rw [addI_cons]
    split
    · simp
    · simp [ih]
end Go.Proofs.YtcjfmbeemdcklaaGreat

/-
  'deny' (package station).
-/
namespace Go.Proofs.YtcjfmbeemdcklaaGreat
open Go.RowKit
def denA : List TP → Int → List Int → Int × List Int
  | [], v, D => (v, D)
  | p :: L, v, D => if addE v D p.a = 0 then denA L (v + 1) (addI D p.a) else denA L v D
theorem Kq.cell {S : Nat → Prop} {a w : World} (h : Kq S a w) {p : Addr} {v : Value} (hc : a.cell? p = some v) (hs : ¬ S p.block) : w.cell? p = some v := by
  rw [World.cell?_of_block (w := a) (h.block p.block (World.block_lt_of_cell? a _ hc) hs)]
  exact hc
theorem TapsAt.kq {S : Nat → Prop} {w w' : World} {o : Option Addr} {L : List TP} (h : TapsAt w o L) (hk : Kq S w w') (ho : ∀ b, S b → Off o L b) : TapsAt w' o L := fun i p hi => by
  obtain ⟨b, hb, c0, c1, c2, c3, c4⟩ := h i p hi
  have ne : ¬ S (b.add (i * 5)).block := fun e => ho _ e b hb (by intro h0; rw [h0] at hi; simp at hi) (addr_blk b _).symm
  exact ⟨b, hb, hk.cell c0 ne, hk.cell (p := ⟨(b.add (i * 5)).block, (b.add (i * 5)).off + 1, none⟩) c1 ne, hk.cell (p := ⟨(b.add (i * 5)).block, (b.add (i * 5)).off + 2, none⟩) c2 ne, hk.cell (p := ⟨(b.add (i * 5)).block, (b.add (i * 5)).off + 3, none⟩) c3 ne, hk.cell (p := ⟨(b.add (i * 5)).block, (b.add (i * 5)).off + 4, none⟩) c4 ne⟩
theorem drop_consP {α : Type} {L : List α} {q : Nat} {p : α} (h : L[q]? = some p) : L.drop q = p :: L.drop (q + 1) := by
  obtain ⟨hlt, rfl⟩ := List.getElem?_eq_some_iff.1 h
  exact List.drop_eq_getElem_cons hlt
theorem add_room {v : Int} {D : List Int} {id : Int} (h : addE v D id = 0) : D.length ≤ 12 := by
  rcases addE_ways v D id with ⟨h1, e⟩ | ⟨-, -, e⟩ | ⟨-, -, -, e⟩ | ⟨h1, -⟩
  · rw [e] at h
    rw [h] at h1
    cases h1
  · omega
  · omega
  · exact (chkD_right (unfD_right h1).1).2.2.1
set_option maxHeartbeats 12800000 in
set_option maxRecDepth 100000 in
theorem keeperDeny_any (K Q B : Nat) (a : KA) (T : List TK) (P : List TP) (V : List Int) (dv : Int) (D : List Int) (G : List GT) (W : List VW) (o : Option Addr) (c : Nat) (M : List TP) (w : World) (hK : Ks w K Q B a T P V dv D G W) (hM : TapsAt w o M) (hoK : Off o M K) (hoQ : Off o M Q) (hlM : M.length ≤ 9223372036854775807) (hlD : D.length ≤ 60) :
    Calls Tryz.prog 102 #[.pointer (some ⟨K, 0, none⟩), .slice o M.length c] w fun e w' => (e = .returned (.tuple #[]) ∧ ∃ a', Ks w' K Q B a' T P V (denA M dv D).1 (denA M dv D).2 G W ∧ (denA M dv D).2.length ≤ 60 ∧ a' = { a with od := a'.od, cd := a'.cd } ∧ ∀ X, X < w.heap.size → Off a.od D X → Off a'.od (denA M dv D).2 X) ∧ Kq (KQ K Q) w w' := by
  have HM := hide hM
  have HO := hide (And.intro hoK hoQ)
  have HK := hide hK
  clear hM hoK hoQ hK
  obtain ⟨RV, RD, hR⟩ : ∃ RV RD, denA M dv D = (RV, RD) := ⟨_, _, rfl⟩
  rw [hR]
  have HR := hide hR
  clear hR
  go_enter Tryz.func102, Tryz.ntmps102
  go_wp2_with fail
  go_loopw [10] (fun j wr => ∃ (q : Nat) (v : Int) (D' : List Int) (a' : KA), q ≤ M.length ∧ j = .int .i64 q ∧ D'.length ≤ 60 ∧ Hid (denA M dv D = denA (M.drop q) v D') ∧ Hid (Ks wr K Q B a' T P V v D' G W) ∧ Hid (Kq (KQ K Q) w wr) ∧ Hid (a' = { a with od := a'.od, cd := a'.cd } ∧ ∀ X, X < w.heap.size → Off a.od D X → Off a'.od D' X)) (fun j _ => M.length - (intOf j).toNat)
  case atStart => exact ⟨0, dv, D, a, Nat.zero_le _, rfl, hlD, by show _ = _; rw [List.drop_zero], HK, Kq.refl _ _, hide ⟨rfl, fun X _ h => h⟩⟩
  case round =>
    obtain ⟨q, v, D', a', hq, rfl, hlD', HE, HKr, HF, HA⟩ := hrel
    by_cases hgo : q < M.length
    · obtain ⟨p, hp⟩ : ∃ p, M[q]? = some p := ⟨M[q], by simp [hgo]⟩
      obtain ⟨A', rfl, c0, c1, c2, c3, c4⟩ := (HM.out.kq HF.out (fun b hb => by rcases hb with rfl | rfl <;> first | exact HO.out.1 | exact HO.out.2)) q p hp
      have hE' := HE.out
      rw [drop_consP hp, denA] at hE'
      have HE1 := hide hE'
      have HB0 := hide ((Blks.nil wr).more (.cells #[.int .i64 p.a, .int .i64 p.g, .int .i64 p.s, .int .i64 p.m, .int .i64 p.z] 58) (by simp))
      have HKa := hide (HKr.out.below HB0.out.2.2)
      have hwr0 : w.heap.size ≤ wr.heap.size := HF.out.size
      have hw1 : wr.heap.size < (wr.alloc (.cells #[.int .i64 p.a, .int .i64 p.g, .int .i64 p.s, .int .i64 p.m, .int .i64 p.z] 58)).heap.size := by simp
      have hKlt := HKr.out.lt
      have hQlt := HKr.out.qlt
      have hbk := HKr.out.bk
      have HAdd := hide (fun X (h : Ks X K Q B a' T P V v D' G W) => addF_any v p.a D' a'.od a'.cd X h.kl.den.1.ats (by omega) h.kl.den.1.eqs.2.2.1 h.kl.den.1.eqs.2.2.2)
      have HRm := hide (fun h : addE v D' p.a = 0 => add_room h)
      generalize hEE : addE v D' p.a = E at *
      clear hEE
      obtain ⟨D2, hD2⟩ : ∃ D2, D2 = if E = 0 then addI D' p.a else [] := ⟨_, rfl⟩
      obtain ⟨n2, hn2⟩ : ∃ n2, n2 = if E = 0 then v + 1 else 0 := ⟨_, rfl⟩
      rw [← hD2, ← hn2] at HAdd
      have HD2 := hide (And.intro hD2 hn2)
      clear hD2 hn2 hE' HE hp
      go_upto_region 3 with fail
      generalize wr.alloc (.cells #[.int .i64 p.a, .int .i64 p.g, .int .i64 p.s, .int .i64 p.m, .int .i64 p.z] 58) = wa at *
      clear c0 c1 c2 c3 c4
      go_cut [6, 7] from 14 to 25 (fun s6 s7 wx => ∃ b n x y, s6 = .pointer (some ⟨b, 0, none⟩) ∧ s7 = .int .i64 E ∧ Hid (wa.heap.size ≤ b ∧ wx.heap[b]? = some (.cells #[.int .i64 n, .slice x D2.length y] 28)) ∧ Hid ((IntsV wx (.slice x D2.length y) D2 ∧ Fresh wa.heap.size (.slice x D2.length y)) ∧ (E = 0 → n = v + 1)) ∧ Hid (Below wa.heap.size wa wx))
      case first =>
        refine wp_region_reads (fun w' => Ks w' K Q B a' T P V v D' G W ∧ Blks wr w' [.cells #[.int .i64 p.a, .int .i64 p.g, .int .i64 p.s, .int .i64 p.m, .int .i64 p.z] 58]) [0, 1, 2, 3, 4, 5, 6] 7 (by rfl) (by kernel_rfl) (by kernel_rfl) (by kernel_rfl) (fun c d v a w h => by cases d <;> exact h) ?_ ?_
        · exact ⟨HKa.out.below (Below.refl _ _).drew, HB0.out.on (Below.refl _ _).drew⟩
        refine wpPureH_step (.pointer (some ⟨K, 0, none⟩)) rfl rfl (fun w' hS => ?_) ?_
        · go_simp
        refine wpPureH_step (.pointer (some ⟨K, 0, none⟩)) rfl rfl (fun w' hS => ?_) ?_
        · go_simp
        refine wpPureH_step (.pointer (some ⟨K, 0, none⟩)) rfl rfl (fun w' hS => ?_) ?_
        · go_simp
        refine wpPureH_step (.pointer (some ⟨K, 3, none⟩)) rfl rfl (fun w' hS => ?_) ?_
        · go_simp
        refine wpPureH_step (dn v a'.od D'.length a'.cd) rfl rfl (fun w' hS => ?_) ?_
        · have k3 := hS.1.c3
          have k4 := hS.1.c4
          go_simp
        refine wpPureH_step (.pointer (some ⟨wr.heap.size, 0, none⟩)) rfl rfl (fun w' hS => ?_) ?_
        · go_simp
        refine wpPureH_step (.int .i64 p.a) rfl rfl (fun w' hS => ?_) ?_
        · have x0 : w'.cell? ⟨wr.heap.size, 0, none⟩ = some (.int .i64 p.a) := hS.2.cell 0 0 wr.heap.size _ _ _ rfl rfl rfl
          go_simp
        refine wpPureH_nil ?_
        have HKd := hide (HKa.out.below (Below.refl _ _).drew)
        have HBd := hide (HB0.out.on (Below.refl _ _).drew)
        have HAd := hide ((Below.refl wa.heap.size wa).drew)
        have hsd : wa.heap.size ≤ wa.drew.heap.size := Nat.le_refl _
        clear HKa HB0
        generalize (World.drew _) = w0 at *
        refine two_readyH (i := 7) (j := 11) (by kernel_rfl) rfl rfl rfl rfl (fun J hJ => ?_) (fun J hJ => ?_)
        · go_simp
          refine (HAdd.out w0 HKd.out).mono ?_
          rintro e u1 ⟨⟨lv, rfl, hN⟩, hb⟩
          obtain ⟨u, rfl, hi, hf⟩ := hN
          obtain ⟨x, y, rfl, hi'⟩ := hi
          have HN := hide (And.intro (show IntsV u1 (.slice x D2.length y) D2 from ⟨_, _, rfl, hi'⟩) hf)
          clear hi' hf
          have HB := hide hb
          refine hJ _ _ ⟨HKd.out.below HB.out, HBd.out.on HB.out⟩ ?_
          clear hJ J hb
          refine takesH (fuel := 3) (by kernel_rfl) (fun c d v a w h => by cases d <;> exact h) ⟨HKd.out.below HB.out, HBd.out.on HB.out⟩ [8, 9, 10] _ _ (by kernel_rfl) ?_
          refine wpPureH_step (.tuple #[dn n2 x D2.length y, .int .i64 E]) rfl rfl (fun w' _ => by go_simp) ?_
          refine wpPureH_step (dn n2 x D2.length y) rfl rfl (fun w' _ => by go_simp) ?_
          refine wpPureH_step (.int .i64 E) rfl rfl (fun w' _ => by go_simp) ?_
          refine wpPureH_nil ?_
          refine one_readyH (i := 11) (by kernel_rfl) rfl rfl (fun J hJ => ?_)
          go_simp
          have hba := (Below.refl u1.heap.size u1).alloc (Nat.le_refl _) (.cells #[.int .i64 0, .slice none 0 0] 28)
          have HBa := hide (HB.out.trans (hba.mono HB.out.size))
          have Hba := hide hba
          have hZ : (u1.alloc (.cells #[.int .i64 0, .slice none 0 0] 28)).heap[u1.heap.size]? = some (.cells #[.int .i64 0, .slice none 0 0] 28) := heap_alloc_new u1 _
          have hlb : w0.heap.size ≤ u1.heap.size := HB.out.size
          refine hJ _ _ ⟨HKd.out.below HBa.out, HBd.out.on HBa.out⟩ ?_
          clear hJ J hba HB
          generalize u1.alloc (.cells #[.int .i64 0, .slice none 0 0] 28) = u2 at *
          have r0 := cell_of_row _ _ 0 _ _ _ hZ
          have s0 := frozen_of_row _ _ 0 _ _ hZ
          have r1 := cell_of_row _ _ 1 _ _ _ hZ
          have s1 := frozen_of_row _ _ 1 _ _ hZ
          simp at r0 r1
          have HZ : Hid (((u2.setCell ⟨u1.heap.size, 0, none⟩ (.int .i64 n2)).setCell ⟨u1.heap.size, 1, none⟩ (.slice x D2.length y)).heap[u1.heap.size]? = some (.cells #[.int .i64 n2, .slice x D2.length y] 28)) := hide (heap_setCell_same _ u1.heap.size 1 _ _ (.slice x D2.length y) (heap_setCell_same _ u1.heap.size 0 _ _ (.int .i64 n2) hZ))
          have HBz := hide ((HBa.out.setCell (p := ⟨u1.heap.size, 0, none⟩) hlb (.int .i64 n2)).setCell (p := ⟨u1.heap.size, 1, none⟩) hlb (.slice x D2.length y))
          have hbz := ((Hba.out.setCell (p := ⟨u1.heap.size, 0, none⟩) (Nat.le_refl _) (.int .i64 n2)).setCell (p := ⟨u1.heap.size, 1, none⟩) (Nat.le_refl _) (.slice x D2.length y))
          have HNz := hide (And.intro (HN.out.1.below hbz) HN.out.2)
          clear hbz Hba
          refine one_readyH (i := 12) (by kernel_rfl) rfl rfl (fun J hJ => ?_)
          go_simp
          refine hJ _ _ ⟨HKd.out.below HBz.out, HBd.out.on HBz.out⟩ ?_
          clear hJ J r0 s0 r1 s1 hZ HBa HN
          generalize ((u2.setCell ⟨u1.heap.size, 0, none⟩ (.int .i64 n2)).setCell ⟨u1.heap.size, 1, none⟩ (.slice x D2.length y)) = uz at *
          refine one_readyH (i := 13) (by kernel_rfl) rfl rfl (fun J hJ => ?_)
          go_simp
          refine hJ _ _ ⟨HKd.out.below HBz.out, HBd.out.on HBz.out⟩ ?_
          clear hJ J
          refine wpAnyH_done (by kernel_rfl) ?_ _
          go_wp2_with fail
          go_meet
          case rel => exact ⟨u1.heap.size, n2, x, y, rfl, rfl, hide ⟨by omega, HZ.out⟩, hide ⟨⟨HNz.out.1, HNz.out.2.mono (by omega)⟩, fun h => by have := HD2.out.2; rw [this, if_pos h]⟩, hide (HAd.out.trans (HBz.out.mono HAd.out.size))⟩
        · go_simp
          have hba := (Below.refl w0.heap.size w0).alloc (Nat.le_refl _) (.cells #[.int .i64 0, .slice none 0 0] 28)
          have HB := hide hba
          have hZ0 : Hid ((w0.alloc (.cells #[.int .i64 0, .slice none 0 0] 28)).heap[w0.heap.size]? = some (.cells #[.int .i64 0, .slice none 0 0] 28)) := hide (heap_alloc_new w0 _)
          have hs1 : (w0.alloc (.cells #[.int .i64 0, .slice none 0 0] 28)).heap.size = w0.heap.size + 1 := by simp
          refine hJ _ _ ⟨HKd.out.below HB.out, HBd.out.on HB.out⟩ ?_
          clear hJ J hba
          generalize w0.alloc (.cells #[.int .i64 0, .slice none 0 0] 28) = u1 at *
          refine one_readyH (i := 7) (by kernel_rfl) rfl rfl (fun J hJ => ?_)
          go_simp
          refine (HAdd.out _ (HKd.out.below HB.out)).mono ?_
          rintro e u2 ⟨⟨lv, rfl, hN⟩, hb⟩
          obtain ⟨u, rfl, hi, hf⟩ := hN
          obtain ⟨x, y, rfl, hi'⟩ := hi
          have HN := hide (And.intro (show IntsV u2 (.slice x D2.length y) D2 from ⟨_, _, rfl, hi'⟩) hf)
          clear hi' hf
          have HBa := hide (HB.out.trans (hb.mono HB.out.size))
          have hZ : u2.heap[w0.heap.size]? = some (.cells #[.int .i64 0, .slice none 0 0] 28) := at_below hZ0.out hb
          have hlb : w0.heap.size ≤ w0.heap.size := Nat.le_refl _
          refine hJ _ _ ⟨HKd.out.below HBa.out, HBd.out.on HBa.out⟩ ?_
          clear hJ J hb HB hZ0
          refine takesH (fuel := 2) (by kernel_rfl) (fun c d v a w h => by cases d <;> exact h) ⟨HKd.out.below HBa.out, HBd.out.on HBa.out⟩ [8, 9, 10] _ _ (by kernel_rfl) ?_
          refine wpPureH_step (.tuple #[dn n2 x D2.length y, .int .i64 E]) rfl rfl (fun w' _ => by go_simp) ?_
          refine wpPureH_step (dn n2 x D2.length y) rfl rfl (fun w' _ => by go_simp) ?_
          refine wpPureH_step (.int .i64 E) rfl rfl (fun w' _ => by go_simp) ?_
          refine wpPureH_nil ?_
          have r0 := cell_of_row _ _ 0 _ _ _ hZ
          have s0 := frozen_of_row _ _ 0 _ _ hZ
          have r1 := cell_of_row _ _ 1 _ _ _ hZ
          have s1 := frozen_of_row _ _ 1 _ _ hZ
          simp at r0 r1
          have HZ : Hid (((u2.setCell ⟨w0.heap.size, 0, none⟩ (.int .i64 n2)).setCell ⟨w0.heap.size, 1, none⟩ (.slice x D2.length y)).heap[w0.heap.size]? = some (.cells #[.int .i64 n2, .slice x D2.length y] 28)) := hide (heap_setCell_same _ w0.heap.size 1 _ _ (.slice x D2.length y) (heap_setCell_same _ w0.heap.size 0 _ _ (.int .i64 n2) hZ))
          have HBz := hide ((HBa.out.setCell (p := ⟨w0.heap.size, 0, none⟩) hlb (.int .i64 n2)).setCell (p := ⟨w0.heap.size, 1, none⟩) hlb (.slice x D2.length y))
          have HNz := hide (And.intro ((HN.out.1.set HN.out.2 (p := ⟨w0.heap.size, 0, none⟩) (show w0.heap.size < u1.heap.size by omega) (.int .i64 n2)).set HN.out.2 (p := ⟨w0.heap.size, 1, none⟩) (show w0.heap.size < u1.heap.size by omega) (.slice x D2.length y)) HN.out.2)
          refine one_readyH (i := 12) (by kernel_rfl) rfl rfl (fun J hJ => ?_)
          go_simp
          refine hJ _ _ ⟨HKd.out.below HBz.out, HBd.out.on HBz.out⟩ ?_
          clear hJ J r0 s0 r1 s1 hZ HBa HN
          generalize ((u2.setCell ⟨w0.heap.size, 0, none⟩ (.int .i64 n2)).setCell ⟨w0.heap.size, 1, none⟩ (.slice x D2.length y)) = uz at *
          refine one_readyH (i := 13) (by kernel_rfl) rfl rfl (fun J hJ => ?_)
          go_simp
          refine hJ _ _ ⟨HKd.out.below HBz.out, HBd.out.on HBz.out⟩ ?_
          clear hJ J
          refine wpAnyH_done (by kernel_rfl) ?_ _
          go_wp2_with fail
          go_meet
          case rel => exact ⟨w0.heap.size, n2, x, y, rfl, rfl, hide ⟨by omega, HZ.out⟩, hide ⟨⟨HNz.out.1, HNz.out.2.mono (by omega)⟩, fun h => by have := HD2.out.2; rw [this, if_pos h]⟩, hide (HAd.out.trans (HBz.out.mono HAd.out.size))⟩
      case rest =>
        obtain ⟨b, n, x, y, rfl, rfl, HZ, HN, HB⟩ := hcut
        have HK2 := hide (HKa.out.below HB.out)
        have HF2 := hide ((HF.out.on HB0.out.2.2).on HB.out)
        clear HKa HB0 HAdd HF HKr
        rcases hE : (E == 0) with _ | _
        · have hE' : ¬ E = 0 := by simpa using hE
          have hE1 := HE1.out
          rw [if_neg hE'] at hE1
          have HE2 := hide hE1
          clear hE1 HE1
          go_wp2_with fail
          exact ⟨⟨q + 1, v, D', a', by omega, by simp, hlD', HE2, HK2, HF2, HA⟩, by simp [intOf]; omega⟩
        · obtain rfl : E = 0 := by simpa using hE
          have hE1 := HE1.out
          rw [if_pos rfl] at hE1
          have HE2 := hide hE1
          obtain ⟨hD2, -⟩ := HD2.out
          rw [if_pos rfl] at hD2
          have hl2 : D2.length ≤ 60 := by
            rw [hD2, addI_len]
            have := HRm.out rfl
            omega
          have HDD := hide hD2
          have hnv : Hid (n = v + 1) := hide (HN.out.2 rfl)
          clear hE1 HE1 hD2 HD2
          have r0 := cell_of_row _ _ 0 _ _ _ HZ.out.2
          have r1 := cell_of_row _ _ 1 _ _ _ HZ.out.2
          simp at r0 r1
          have k3 := HK2.out.c3
          have k4 := HK2.out.c4
          have z3 := HK2.out.fz 3
          have z4 := HK2.out.fz 4
          have HK3 := hide (HK2.out.setDen (n := n) ⟨HN.out.1.1, .new HN.out.1.2 (by omega) (by omega) (by omega)⟩)
          have HF3 := hide ((HF2.out.setCell (p := ⟨K, 3, none⟩) (.inl rfl) (.int .i64 n)).setCell (p := ⟨K, 4, none⟩) (.inl rfl) (.slice x D2.length y))
          have HA3 : Hid (({ a' with od := x, cd := y } : KA) = { a with od := x, cd := y } ∧ ∀ X, X < w.heap.size → Off a.od D X → Off x D2 X) := hide ⟨by rw [HA.out.1], fun X hX _ => off_fresh HN.out.1.2 (by have := HF2.out.size; omega)⟩
          clear HK2 HF2
          go_wp2_with fail
          refine ⟨⟨q + 1, n, D2, _, by omega, by simp, hl2, ?_, HK3, HF3, HA3⟩, by simp [intOf]; omega⟩
          show _ = _
          rw [hnv.out, HDD.out]
          exact HE2.out
    · have hE' := HE.out
      rw [List.drop_of_length_le (by omega), denA, HR.out] at hE'
      simp only [Prod.mk.injEq] at hE'
      have HRE := hide hE'
      clear hE'
      go_wp2_with fail
      go_end0
      exact ⟨⟨rfl, a', by rw [HRE.out.1, HRE.out.2]; exact HKr.out, by rw [HRE.out.2]; exact hlD', HA.out.1, by rw [HRE.out.2]; exact HA.out.2⟩, HF.out⟩
end Go.Proofs.YtcjfmbeemdcklaaGreat

/-
  'each' with 'Check' (package rule), 'twice' (package merge).
-/
namespace Go.Proofs.YtcjfmbeemdcklaaGreat
open Go.RowKit
theorem dropP {L : List TP} {q : Nat} {x : TP} (h : L[q]? = some x) : L.drop q = x :: L.drop (q + 1) := by
  obtain ⟨h1, h2⟩ := List.getElem?_eq_some_iff.1 h
  rw [List.drop_eq_getElem_cons h1, h2]
set_option maxHeartbeats 1600000 in
theorem eachC_any (o : Option Addr) (cap : Nat) (L : List TP) (w : World) (hL : TapsAt w o L) (hlen : L.length ≤ 9223372036854775807) :
    Calls Tryz.prog 115 #[.slice o L.length cap, .func (.func 116) #[] #[]] w fun x w' => x = .returned (.int .i64 (firstE (L.map chkT))) ∧ Below w.heap.size w w' := by
  have HL := hide hL
  obtain ⟨R, hR⟩ : ∃ R, R = firstE (L.map chkT) := ⟨_, rfl⟩
  rw [← hR]
  have HR := hide hR
  clear hL hR
  go_enter Tryz.func115, Tryz.ntmps115
  go_wp2_with fail
  go_loopw [10] (fun j wr => ∃ (q : Nat), q ≤ L.length ∧ j = .int .i64 q ∧ Hid (firstE (L.map chkT) = firstE ((L.drop q).map chkT)) ∧ Below w.heap.size w wr) (fun j _ => L.length - (intOf j).toNat)
  case atStart => exact ⟨0, Nat.zero_le _, rfl, by show _ = _; simp, Below.refl _ _⟩
  case round =>
    obtain ⟨q, hq, rfl, hE, hbr⟩ := hrel
    by_cases hgo : q < L.length
    · obtain ⟨p, hp⟩ : ∃ p, L[q]? = some p := ⟨L[q], by simp [hgo]⟩
      obtain ⟨A, rfl, c0, c1, c2, c3, c4⟩ := (HL.out.below hbr) q p hp
      have hE' := hE.out
      rw [dropP hp, List.map_cons, firstE] at hE'
      clear hE hp
      have HV := hide (fun W => checkP_any p.a p.g p.s p.m p.z W)
      have HE := hide hE'
      clear hE'
      have HW := hide hbr
      go_wp2_with fail
      refine (HV.out _).mono ?_
      rintro e w3 ⟨rfl, hb3⟩
      have HB := hide (HW.out.trans ((Below.alloc (Below.refl wr.heap.size wr) (Nat.le_refl _) (.cells #[.int .i64 p.a, .int .i64 p.g, .int .i64 p.s, .int .i64 p.m, .int .i64 p.z] 58)).trans (hb3.mono (by simp)) |>.mono HW.out.size))
      clear hbr hb3
      have hC : chkT p = chkP p.a p.g p.s p.m p.z := rfl
      rw [hC] at HE
      clear hC
      generalize chkP p.a p.g p.s p.m p.z = E at *
      by_cases h0 : E = 0
      · subst h0
        have HE' := hide (show firstE (L.map chkT) = firstE ((L.drop (q + 1)).map chkT) from HE.out)
        go_wp2_with fail
        exact ⟨⟨q + 1, by omega, by simp, HE', HB.out⟩, by simp [intOf]; omega⟩
      · have h0' : (E != 0) = true := by simpa using h0
        have HR' : Hid (R = E) := by
          show _ = _
          have h1 := HE.out
          rw [if_neg h0] at h1
          rw [HR.out, h1]
        clear h0
        go_wp2_with fail
        go_ret
        exact ⟨by rw [HR'.out]; rfl, HB.out⟩
    · have hE' := hE.out
      rw [List.drop_of_length_le (by omega)] at hE'
      have HR' := hide (show R = 0 by rw [HR.out, hE']; rfl)
      clear hE'
      go_wp2_with fail
      go_ret
      exact ⟨by rw [HR'.out]; rfl, hbr⟩
end Go.Proofs.YtcjfmbeemdcklaaGreat

/-
  The order of taps: lists alone.
-/
namespace Go.Proofs.YtcjfmbeemdcklaaGreat
open Go.RowKit
open Go.Sort (grow alloc_eq_grow grow_grow)
theorem drop_consI {α : Type} {L : List α} {q : Nat} {x : α} (h : L[q]? = some x) : L.drop q = x :: L.drop (q + 1) := by
  obtain ⟨h1, h2⟩ := List.getElem?_eq_some_iff.1 h
  rw [List.drop_eq_getElem_cons h1, h2]
theorem or_any (o : Option Addr) (L : List Int) (cap : Nat) (w : World) (hL : IntsAt w o L) (hlen : L.length ≤ 60) :
    Calls Tryz.prog 158 #[.slice o L.length cap] w fun e w' => e = .returned (.int .i64 (firstE L)) ∧ w' = w := by
  have HL := hide hL
  obtain ⟨R, hR⟩ : ∃ R, R = firstE L := ⟨_, rfl⟩
  rw [← hR]
  have HR := hide hR
  clear hL hR
  go_enter Tryz.func158, Tryz.ntmps158
  go_wp2_with fail
  go_loopw [8] (fun j wr => ∃ (q : Nat), q ≤ L.length ∧ j = .int .i64 q ∧ Hid (firstE L = firstE (L.drop q)) ∧ wr = w) (fun j _ => L.length - (intOf j).toNat)
  case atStart => exact ⟨0, Nat.zero_le _, rfl, by show _ = _; simp, rfl⟩
  case round =>
    obtain ⟨q, hq, rfl, hE, hw⟩ := hrel
    obtain rfl := hw.symm
    by_cases hgo : q < L.length
    · obtain ⟨x, hx⟩ : ∃ x, L[q]? = some x := ⟨L[q], by simp [hgo]⟩
      obtain ⟨A, rfl, c0⟩ := HL.out q x hx
      have hE' := hE.out
      rw [drop_consI hx, firstE] at hE'
      clear hE hx
      by_cases h0 : x = 0
      · subst h0
        have HE := hide (show firstE L = firstE (L.drop (q + 1)) by rw [hE']; rfl)
        clear hE'
        go_wp2_with fail
        exact ⟨⟨q + 1, by omega, by simp, HE, by first | rfl | trivial⟩, by simp [intOf]; omega⟩
      · rw [if_neg h0] at hE'
        have HE := hide (show R = x by rw [HR.out, hE'])
        have h0' : (x != 0) = true := by simpa using h0
        clear hE' h0
        go_wp2_with fail
        go_ret
        exact ⟨by rw [HE.out]; rfl, rfl⟩
    · have hE' := hE.out
      rw [List.drop_of_length_le (by omega)] at hE'
      have HE := hide (show R = 0 by rw [HR.out, hE']; rfl)
      clear hE'
      go_wp2_with fail
      go_ret
      exact ⟨by rw [HE.out]; rfl, rfl⟩
def riseV (p q : TP) : Int := firstE [cmpV p.m q.m, cmpV p.g q.g, cmpV p.s q.s]
set_option maxHeartbeats 3200000 in
theorem rise_any (p q : TP) (W : World) :
    Calls Tryz.prog 120 #[.agg #[.int .i64 p.a, .int .i64 p.g, .int .i64 p.s, .int .i64 p.m, .int .i64 p.z], .agg #[.int .i64 q.a, .int .i64 q.g, .int .i64 q.s, .int .i64 q.m, .int .i64 q.z]] W fun e w' => e = .returned (.int .i64 (riseV p q)) ∧ ∃ n os, w' = grow (W.drewN n) os := by
  have HG := hide (((Blks.nil W).more (.cells #[.int .i64 p.a, .int .i64 p.g, .int .i64 p.s, .int .i64 p.m, .int .i64 p.z] 58) (by simp)).more (.cells #[.int .i64 q.a, .int .i64 q.g, .int .i64 q.s, .int .i64 q.m, .int .i64 q.z] 58) (by simp))
  have HO := hide (fun (W' : World) (o : Option Addr) (c : Nat) (h : IntsAt W' o [cmpV p.m q.m, cmpV p.g q.g, cmpV p.s q.s]) => or_any o _ c W' h (by simp))
  rw [riseV]
  generalize hR : firstE [cmpV p.m q.m, cmpV p.g q.g, cmpV p.s q.s] = R at *
  clear hR
  go_enter Tryz.func120, Tryz.ntmps120
  go_wp2_with fail
  have HW : Hid (∃ os, (W.alloc (.cells #[.int .i64 p.a, .int .i64 p.g, .int .i64 p.s, .int .i64 p.m, .int .i64 p.z] 58)).alloc (.cells #[.int .i64 q.a, .int .i64 q.g, .int .i64 q.s, .int .i64 q.m, .int .i64 q.z] 58) = grow W os) := ⟨_, by rw [alloc_eq_grow, alloc_eq_grow, grow_grow]⟩
  generalize (W.alloc _).alloc _ = w0 at *
  refine wp_region_reads (fun w' => Blks W w' [.cells #[.int .i64 p.a, .int .i64 p.g, .int .i64 p.s, .int .i64 p.m, .int .i64 p.z] 58, .cells #[.int .i64 q.a, .int .i64 q.g, .int .i64 q.s, .int .i64 q.m, .int .i64 q.z] 58]) [0, 1, 2, 3, 5, 6, 7, 8, 10, 11, 12, 13] 6 (by rfl) (by kernel_rfl) (by kernel_rfl) (by kernel_rfl) (fun c d v a w h => by cases d <;> exact h) ?_ ?_
  · exact HG.out.on (Below.refl _ _).drew
  refine wpPureH_step (.pointer (some ⟨W.heap.size, 3, none⟩)) rfl rfl (fun w' hS => ?_) ?_
  · have k0 := hS.cell 0 3 (W.heap.size) _ _ _ rfl rfl rfl
    go_simp
  refine wpPureH_step (.int .i64 p.m) rfl rfl (fun w' hS => ?_) ?_
  · have k0 := hS.cell 0 3 (W.heap.size) _ _ _ rfl rfl rfl
    go_simp
  refine wpPureH_step (.pointer (some ⟨W.heap.size + 1, 3, none⟩)) rfl rfl (fun w' hS => ?_) ?_
  · have k0 := hS.cell 1 3 (W.heap.size + 1) _ _ _ rfl rfl rfl
    go_simp
  refine wpPureH_step (.int .i64 q.m) rfl rfl (fun w' hS => ?_) ?_
  · have k0 := hS.cell 1 3 (W.heap.size + 1) _ _ _ rfl rfl rfl
    go_simp
  refine wpPureH_step (.pointer (some ⟨W.heap.size, 1, none⟩)) rfl rfl (fun w' hS => ?_) ?_
  · have k0 := hS.cell 0 1 (W.heap.size) _ _ _ rfl rfl rfl
    go_simp
  refine wpPureH_step (.int .i64 p.g) rfl rfl (fun w' hS => ?_) ?_
  · have k0 := hS.cell 0 1 (W.heap.size) _ _ _ rfl rfl rfl
    go_simp
  refine wpPureH_step (.pointer (some ⟨W.heap.size + 1, 1, none⟩)) rfl rfl (fun w' hS => ?_) ?_
  · have k0 := hS.cell 1 1 (W.heap.size + 1) _ _ _ rfl rfl rfl
    go_simp
  refine wpPureH_step (.int .i64 q.g) rfl rfl (fun w' hS => ?_) ?_
  · have k0 := hS.cell 1 1 (W.heap.size + 1) _ _ _ rfl rfl rfl
    go_simp
  refine wpPureH_step (.pointer (some ⟨W.heap.size, 2, none⟩)) rfl rfl (fun w' hS => ?_) ?_
  · have k0 := hS.cell 0 2 (W.heap.size) _ _ _ rfl rfl rfl
    go_simp
  refine wpPureH_step (.int .i64 p.s) rfl rfl (fun w' hS => ?_) ?_
  · have k0 := hS.cell 0 2 (W.heap.size) _ _ _ rfl rfl rfl
    go_simp
  refine wpPureH_step (.pointer (some ⟨W.heap.size + 1, 2, none⟩)) rfl rfl (fun w' hS => ?_) ?_
  · have k0 := hS.cell 1 2 (W.heap.size + 1) _ _ _ rfl rfl rfl
    go_simp
  refine wpPureH_step (.int .i64 q.s) rfl rfl (fun w' hS => ?_) ?_
  · have k0 := hS.cell 1 2 (W.heap.size + 1) _ _ _ rfl rfl rfl
    go_simp
  refine wpPureH_nil ?_
  have HGd := hide (HG.out.on (Below.refl _ _).drew)
  have HWd : Hid (∃ n os, w0.drew = grow (W.drewN n) os) := by
    obtain ⟨os, e⟩ := HW.out
    exact ⟨1, os, by rw [e]; rfl⟩
  clear HG HW
  generalize World.drew _ = wa at *
  refine one_readyH (i := 4) (by kernel_rfl) rfl rfl (fun K hK => ?_)
  go_simp
  refine (compare_any p.m q.m wa).mono ?_
  rintro e w' ⟨rfl, hw'⟩
  obtain rfl := hw'.symm
  refine hK _ _ HGd.out ?_
  clear hK K
  refine one_readyH (i := 9) (by kernel_rfl) rfl rfl (fun K hK => ?_)
  go_simp
  refine (compare_any p.g q.g wa).mono ?_
  rintro e w' ⟨rfl, hw'⟩
  obtain rfl := hw'.symm
  refine hK _ _ HGd.out ?_
  clear hK K
  refine one_readyH (i := 14) (by kernel_rfl) rfl rfl (fun K hK => ?_)
  go_simp
  refine (compare_any p.s q.s wa).mono ?_
  rintro e w' ⟨rfl, hw'⟩
  obtain rfl := hw'.symm
  refine hK _ _ HGd.out ?_
  clear hK K
  generalize cmpV p.m q.m = x1 at *
  generalize cmpV p.g q.g = x2 at *
  generalize cmpV p.s q.s = x3 at *
  refine one_readyH (i := 15) (by kernel_rfl) rfl rfl (fun K hK => ?_)
  go_simp
  have HGe := hide (HGd.out.on ((Below.refl wa.heap.size wa).alloc (Nat.le_refl _) (.cells #[.int .i64 x1, .int .i64 x2, .int .i64 x3] 3)))
  refine hK _ _ HGe.out ?_
  clear hK K
  have HI : Hid (IntsAt (wa.alloc (.cells #[.int .i64 x1, .int .i64 x2, .int .i64 x3] 3)) (some ⟨wa.heap.size, 0, none⟩) [x1, x2, x3]) := by
    intro i v hi
    refine ⟨_, rfl, ?_⟩
    match i, hi with
    | 0, hi | 1, hi | 2, hi =>
      simp at hi
      subst hi
      simp [Addr.add, go_sem]
  have HWe : Hid (∃ n os, wa.alloc (.cells #[.int .i64 x1, .int .i64 x2, .int .i64 x3] 3) = grow (W.drewN n) os) := by
    obtain ⟨n, os, e⟩ := HWd.out
    exact ⟨n, _, by rw [e, alloc_eq_grow, grow_grow]⟩
  clear HGd HWd
  refine one_readyH (i := 16) (by kernel_rfl) rfl rfl (fun K hK => ?_)
  go_simp
  refine (HO.out _ _ 3 HI.out).mono ?_
  rintro e w' ⟨rfl, hw'⟩
  obtain rfl := hw'.symm
  refine hK _ _ HGe.out ?_
  clear hK K
  refine one_readyH (i := 17) (by kernel_rfl) rfl rfl (fun K hK => ?_)
  go_simp
  refine hK _ _ HGe.out ?_
  clear hK K
  refine wpAnyH_done (by kernel_rfl) ?_ _
  go_wp2_with fail
  go_ret
  exact ⟨rfl, HWe.out⟩
def befP (p q : TP) : Prop := p.m < q.m ∨ (p.m = q.m ∧ (p.g < q.g ∨ (p.g = q.g ∧ p.s < q.s)))
instance (p q : TP) : Decidable (befP p q) := by unfold befP; infer_instance
theorem cmpV_neg (a b : Int) : cmpV a b < 0 ↔ a < b := by
  unfold cmpV
  split
  · simp; omega
  · split
    · simp; omega
    · simp; omega
theorem cmpV_zero (a b : Int) : cmpV a b = 0 ↔ a = b := by
  unfold cmpV
  split
  · simp; omega
  · split
    · simp; omega
    · simp; omega
theorem riseV_neg (p q : TP) : riseV p q < 0 ↔ befP p q := by
  unfold riseV befP
  simp only [firstE]
  have h1 := cmpV_neg p.m q.m
  have h2 := cmpV_zero p.m q.m
  have h3 := cmpV_neg p.g q.g
  have h4 := cmpV_zero p.g q.g
  have h5 := cmpV_neg p.s q.s
  have h6 := cmpV_zero p.s q.s
  generalize cmpV p.m q.m = x at *
  generalize cmpV p.g q.g = y at *
  generalize cmpV p.s q.s = z at *
  by_cases hx : x = 0
  · by_cases hy : y = 0
    · by_cases hz : z = 0
      · simp [hx, hy, hz]; omega
      · simp [hx, hy, hz]; omega
    · simp [hx, hy]; omega
  · simp [hx]; omega
theorem befP_irrefl (p : TP) : ¬ befP p p := by unfold befP; omega
theorem befP_trans {p q r : TP} (h1 : befP p q) (h2 : befP q r) : befP p r := by unfold befP at *; omega
theorem befP_asymm {p q : TP} (h1 : befP p q) (h2 : befP q p) : False := by unfold befP at *; omega
theorem befP_total {p q : TP} (h : ¬ (p.g = q.g ∧ p.s = q.s)) (h1 : ¬ befP q p) : befP p q := by unfold befP at *; omega
def DistP (L : List TP) : Prop := L.Pairwise fun p q => ¬ (p.g = q.g ∧ p.s = q.s)
theorem DistP.perm {L M : List TP} (h : DistP L) (hp : L.Perm M) : DistP M :=
  (hp.pairwise_iff (fun h => fun e => h ⟨e.1.symm, e.2.symm⟩)).1 h
def Ord (L : List TP) : Prop := L.Pairwise befP
theorem Ord.eq {L M : List TP} (h1 : Ord L) (h2 : Ord M) (hp : L.Perm M) : L = M := by
  induction L generalizing M with
  | nil => exact hp.nil_eq
  | cons x L ih =>
    cases M with
    | nil => exact absurd hp.symm.nil_eq (by simp)
    | cons y M =>
      have hx : x ∈ y :: M := hp.mem_iff.1 (by simp)
      have hy : y ∈ x :: L := hp.mem_iff.2 (by simp)
      have hxy : x = y := by
        rcases List.mem_cons.1 hx with h | h
        · exact h
        · rcases List.mem_cons.1 hy with h' | h'
          · exact h'.symm
          · exact (befP_asymm ((List.pairwise_cons.1 h1).1 y h') ((List.pairwise_cons.1 h2).1 x h)).elim
      subst hxy
      rw [ih (List.pairwise_cons.1 h1).2 (List.pairwise_cons.1 h2).2 (List.Perm.cons_inv hp)]
def srt (L : List TP) : List TP := L.mergeSort fun p q => !decide (befP q p)
theorem srt_perm (L : List TP) : (srt L).Perm L := List.mergeSort_perm L _
theorem srt_len (L : List TP) : (srt L).length = L.length := (srt_perm L).length_eq
theorem srt_ord {L : List TP} (h : DistP L) : Ord (srt L) := by
  have h1 : (srt L).Pairwise fun p q => (!decide (befP q p)) = true := by
    refine List.pairwise_mergeSort ?_ ?_ L
    · intro a b c h1 h2
      simp only [Bool.not_eq_true', decide_eq_false_iff_not] at *
      intro h3
      unfold befP at *
      omega
    · intro a b
      simp only [Bool.or_eq_true, Bool.not_eq_true', decide_eq_false_iff_not]
      by_cases h : befP b a
      · right; exact fun h' => befP_asymm h h'
      · left; exact h
  have h2 : DistP (srt L) := h.perm (srt_perm L).symm
  exact (h1.and h2).imp (fun {p q} ⟨h3, h4⟩ => befP_total h4 (by simpa using h3))
theorem srt_eq {L M : List TP} (hM : Ord M) (hp : M.Perm L) (hd : DistP L) : M = srt L :=
  hM.eq (srt_ord hd) (hp.trans (srt_perm L).symm)
end Go.Proofs.YtcjfmbeemdcklaaGreat

/-
  slices.SortFunc at taps: the shelf's law, laid at this dump.
-/
namespace Go.Proofs.YtcjfmbeemdcklaaGreat
open Go.Shelf
def sortLay_ren : Go.Shelf.Ren := ⟨fun | 6 => 119 | 15 => 157 | 14 => 156 | 28 => 185 | 29 => 186 | 20 => 177 | 21 => 178 | 22 => 179 | 23 => 180 | 24 => 181 | 25 => 182 | 26 => 183 | 27 => 184 | 46 => 192 | 47 => 193 | 48 => 194 | 49 => 195 | 50 => 196 | 57 => 201 | n => n, fun | 22 => 23 | 24 => 58 | 25 => 154 | 3 => 3 | 39 => 177 | 0 => 0 | 53 => 200 | 55 => 202 | 4 => 4 | 46 => 194 | 45 => 193 | 50 => 96 | 5 => 5 | 9 => 9 | 66 => 207 | 70 => 211 | 76 => 217 | 77 => 146 | n => n, fun | n => n⟩
theorem sortLay : Go.Proofs.SlLaysF0.n6 Tryz.prog sortLay_ren := {
  mixed := by kernel_rfl
  f6 := ⟨Tryz.f119.name, by decide, Tryz.func119.trans (congrArg some (by kernel_rfl))⟩
  f14 := ⟨Tryz.f156.name, by decide, Tryz.func156.trans (congrArg some (by kernel_rfl))⟩
  f15 := Tryz.func157.trans (congrArg some (by kernel_rfl))
  f20 := ⟨Tryz.f177.name, by decide, Tryz.func177.trans (congrArg some (by kernel_rfl))⟩
  f21 := ⟨Tryz.f178.name, by decide, Tryz.func178.trans (congrArg some (by kernel_rfl))⟩
  f22 := ⟨Tryz.f179.name, by decide, Tryz.func179.trans (congrArg some (by kernel_rfl))⟩
  f23 := ⟨Tryz.f180.name, by decide, Tryz.func180.trans (congrArg some (by kernel_rfl))⟩
  f24 := ⟨Tryz.f181.name, by decide, Tryz.func181.trans (congrArg some (by kernel_rfl))⟩
  f25 := ⟨Tryz.f182.name, by decide, Tryz.func182.trans (congrArg some (by kernel_rfl))⟩
  f26 := ⟨Tryz.f183.name, by decide, Tryz.func183.trans (congrArg some (by kernel_rfl))⟩
  f27 := ⟨Tryz.f184.name, by decide, Tryz.func184.trans (congrArg some (by kernel_rfl))⟩
  f28 := Tryz.func185.trans (congrArg some (by kernel_rfl))
  f29 := Tryz.func186.trans (congrArg some (by kernel_rfl))
  f46 := ⟨Tryz.f192.name, by decide, Tryz.func192.trans (congrArg some (by kernel_rfl))⟩
  f47 := Tryz.func193.trans (congrArg some (by kernel_rfl))
  f48 := Tryz.func194.trans (congrArg some (by kernel_rfl))
  f49 := ⟨Tryz.f195.name, by decide, Tryz.func195.trans (congrArg some (by kernel_rfl))⟩
  f50 := ⟨Tryz.f196.name, by decide, Tryz.func196.trans (congrArg some (by kernel_rfl))⟩
  f57 := ⟨Tryz.f201.name, by decide, Tryz.func201.trans (congrArg some (by kernel_rfl))⟩
  t0 := Tryz.underlying0
  a0 := Tryz.isAgg0
  z0 := Tryz.sizeOf0
  v0 := Tryz.zeroValue0
  t3 := Tryz.underlying3
  a3 := Tryz.isAgg3
  z3 := Tryz.sizeOf3
  v3 := Tryz.zeroValue3
  t4 := Tryz.underlying4
  a4 := Tryz.isAgg4
  z4 := Tryz.sizeOf4
  v4 := Tryz.zeroValue4
  t5 := Tryz.underlying5
  a5 := Tryz.isAgg5
  z5 := Tryz.sizeOf5
  v5 := Tryz.zeroValue5
  t9 := Tryz.underlying9
  a9 := Tryz.isAgg9
  z9 := Tryz.sizeOf9
  v9 := Tryz.zeroValue9
  t22 := Tryz.underlying23
  a22 := Tryz.isAgg23
  z22 := Tryz.sizeOf23
  v22 := Tryz.zeroValue23
  t25 := Tryz.underlying154
  a25 := Tryz.isAgg154
  z25 := Tryz.sizeOf154
  v25 := Tryz.zeroValue154
  t39 := Tryz.underlying177
  a39 := Tryz.isAgg177
  z39 := Tryz.sizeOf177
  v39 := Tryz.zeroValue177
  t45 := Tryz.underlying193
  a45 := Tryz.isAgg193
  z45 := Tryz.sizeOf193
  v45 := Tryz.zeroValue193
  t46 := Tryz.underlying194
  a46 := Tryz.isAgg194
  z46 := Tryz.sizeOf194
  v46 := Tryz.zeroValue194
  t50 := Tryz.underlying96
  a50 := Tryz.isAgg96
  z50 := Tryz.sizeOf96
  v50 := Tryz.zeroValue96
  t53 := Tryz.underlying200
  a53 := Tryz.isAgg200
  z53 := Tryz.sizeOf200
  v53 := Tryz.zeroValue200
  t55 := Tryz.underlying202
  a55 := Tryz.isAgg202
  z55 := Tryz.sizeOf202
  v55 := Tryz.zeroValue202
  t66 := Tryz.underlying207
  a66 := Tryz.isAgg207
  z66 := Tryz.sizeOf207
  v66 := Tryz.zeroValue207
  t70 := Tryz.underlying211
  a70 := Tryz.isAgg211
  z70 := Tryz.sizeOf211
  v70 := Tryz.zeroValue211
  t76 := Tryz.underlying217
  a76 := Tryz.isAgg217
  z76 := Tryz.sizeOf217
  v76 := Tryz.zeroValue217
  t77 := Tryz.underlying146
  a77 := Tryz.isAgg146
  z77 := Tryz.sizeOf146
  v77 := Tryz.zeroValue146 }
end Go.Proofs.YtcjfmbeemdcklaaGreat

/-
  'Order' (package merge).
-/
namespace Go.Proofs.YtcjfmbeemdcklaaGreat
open Go.RowKit
def dupFrom : List TP → List TP → Bool
  | _, [] => false
  | A, p :: L => twiceT A p || dupFrom (A ++ [p]) L
def dupB (L : List TP) : Bool := dupFrom [] L
def cntN (L : List TP) (g s : Nat) : Nat := L.countP fun p => p.g == (g : Int) && p.s == (s : Int)
theorem cntN_snoc (L : List TP) (p : TP) (g s : Nat) : cntN (L ++ [p]) g s = cntN L g s + if (p.g == (g : Int) && p.s == (s : Int)) = true then 1 else 0 := by
  rw [cntN, List.countP_append]
  simp [List.countP_cons, cntN]
theorem cntN_le (L : List TP) (g s : Nat) : cntN L g s ≤ L.length := List.countP_le_length
theorem twice_cnt (L : List TP) (p : TP) (g s : Nat) (hg : p.g = (g : Int)) (hs : p.s = (s : Int)) : twiceT L p = decide (0 < cntN L g s) := by
  rw [twiceT, cntN, hg, hs]
  cases h : L.any fun x => x.g == (g : Int) && x.s == (s : Int)
  · have h2 : L.countP (fun p => p.g == (g : Int) && p.s == (s : Int)) = 0 := by
      rw [List.countP_eq_zero]
      intro x hx
      have := List.any_eq_false.1 h x hx
      simpa using this
    rw [h2]
    rfl
  · have h2 : 0 < L.countP (fun p => p.g == (g : Int) && p.s == (s : Int)) := by
      rw [List.countP_pos_iff]
      obtain ⟨x, hx, hp⟩ := List.any_eq_true.1 h
      exact ⟨x, hx, hp⟩
    simp [h2]
theorem cell_set_neF {w : World} {p q : Addr} {u v : Value} (hne : p.block ≠ q.block) (h : w.cell? q = some v) : (w.setCell p u).cell? q = some v := by
  rw [World.cell?_setCell_other]
  · exact h
  · intro e
    exact hne (by rw [e])
theorem dropFrom_cons (A : List TP) (p : TP) (L : List TP) : dupFrom A (p :: L) = (twiceT A p || dupFrom (A ++ [p]) L) := rfl
theorem zeroC : Tryz.zeroCells174 = Array.replicate 300 (.int .i64 0) := by kernel_rfl
def Tab (w : World) (B : Nat) (M : List TP) : Prop := ∃ cs : Array Value, w.heap[B]? = some (.cells cs 174) ∧ cs.size = 300 ∧ ∀ g s : Nat, g < 3 → s < 100 → cs[g * 100 + s]? = some (.int .i64 (cntN M g s))
theorem Tab.below {w w' : World} {B : Nat} {M : List TP} (h : Tab w B M) (hb : Below w.heap.size w w') : Tab w' B M := by
  obtain ⟨cs, h1, h2⟩ := h
  refine ⟨cs, ?_, h2⟩
  have hlt : B < w.heap.size := (Array.getElem?_eq_some_iff.1 h1).1
  rw [hb.block _ hlt]
  exact h1
theorem Tab.cell {w : World} {B : Nat} {M : List TP} (h : Tab w B M) {g s : Nat} (hg : g < 3) (hs : s < 100) : w.cell? ⟨B, g * 100 + s, none⟩ = some (.int .i64 (cntN M g s)) ∧ w.frozen? ⟨B, g * 100 + s, none⟩ = false := by
  obtain ⟨cs, h1, h2, h3⟩ := h
  exact ⟨by rw [cell_of_row _ _ _ _ _ _ h1]; exact h3 g s hg hs, frozen_of_row _ _ _ _ _ h1⟩
theorem Tab.more {w : World} {B : Nat} {M : List TP} (h : Tab w B M) {g s : Nat} {p : TP} (hg : g < 3) (hs : s < 100) (eg : p.g = (g : Int)) (es : p.s = (s : Int)) :
    Tab (w.setCell ⟨B, g * 100 + s, none⟩ (.int .i64 ((cntN M g s : Int) + 1))) B (M ++ [p]) := by
  obtain ⟨cs, h1, h2, h3⟩ := h
  refine ⟨_, heap_setCell_same w B _ cs _ _ h1, by simpa using h2, fun g' s' hg' hs' => ?_⟩
  rw [Array.getElem?_setIfInBounds, cntN_snoc, eg, es]
  by_cases he : g = g' ∧ s = s'
  · obtain ⟨rfl, rfl⟩ := he
    rw [if_pos rfl, if_pos (by omega)]
    simp
  · rw [if_neg (by omega), h3 g' s' hg' hs', if_neg (by simp; omega)]
    simp
set_option maxHeartbeats 3200000 in
theorem twice_any (o : Option Addr) (cap : Nat) (L : List TP) (w : World) (hL : TapsAt w o L) (hlen : L.length ≤ 72) (hr : ∀ p ∈ L, (0 ≤ p.g ∧ p.g ≤ 2) ∧ (1 ≤ p.s ∧ p.s ≤ 99)) :
    Calls Tryz.prog 117 #[.slice o L.length cap] w fun x w' => x = .returned (.bool (dupB L)) ∧ Below w.heap.size w w' := by
  have HL := hide hL
  have HR0 := hide hr
  obtain ⟨R, hR⟩ : ∃ R, R = dupB L := ⟨_, rfl⟩
  rw [← hR]
  have HR := hide hR
  have HB0 := hide ((Below.refl w.heap.size w).alloc (Nat.le_refl _) (.cells Tryz.zeroCells174 174))
  have HT0 : Hid (Tab (w.alloc (.cells Tryz.zeroCells174 174)) w.heap.size []) := by
    refine ⟨_, heap_alloc_new w _, by rw [zeroC]; simp, fun g s hg hs => ?_⟩
    rw [zeroC, Array.getElem?_replicate, if_pos (by omega)]
    rfl
  clear hL hr hR
  go_enter Tryz.func117, Tryz.ntmps117
  go_wp2_with fail
  generalize w.alloc _ = w0 at *
  go_loopw [8] (fun j wr => ∃ (q : Nat), q ≤ L.length ∧ j = .int .i64 q ∧ Hid (dupB L = dupFrom (L.take q) (L.drop q)) ∧ Hid (Tab wr w.heap.size (L.take q)) ∧ Hid (Below w.heap.size w wr)) (fun j _ => L.length - (intOf j).toNat)
  case atStart => exact ⟨0, Nat.zero_le _, rfl, by show _ = _; simp [dupB], HT0, HB0⟩
  case round =>
    obtain ⟨q, hq, rfl, hD, hT, hB⟩ := hrel
    by_cases hgo : q < L.length
    · obtain ⟨p, hp⟩ : ∃ p, L[q]? = some p := ⟨L[q], by simp [hgo]⟩
      obtain ⟨A, rfl, c0, c1, c2, c3, c4⟩ := (HL.out.below hB.out) q p hp
      have hrp := HR0.out p (List.mem_of_getElem? hp)
      have hD' := hD.out
      rw [dropP hp, dropFrom_cons, show L.take q ++ [p] = L.take (q + 1) by rw [List.take_add_one, hp]; rfl] at hD'
      have hM : L.take (q + 1) = L.take q ++ [p] := by rw [List.take_add_one, hp]; rfl
      have hcl : cntN (L.take q) p.g.toNat p.s.toNat ≤ 72 := Nat.le_trans (cntN_le _ _ _) (by simp; omega)
      obtain ⟨pa, pg, ps, pm, pz⟩ := p
      simp only [] at hrp c0 c1 c2 c3 c4
      obtain ⟨g, rfl⟩ : ∃ g : Nat, pg = (g : Int) := ⟨pg.toNat, by omega⟩
      obtain ⟨s, rfl⟩ : ∃ s : Nat, ps = (s : Int) := ⟨ps.toNat, by omega⟩
      simp only [Int.toNat_natCast] at hcl
      rw [twice_cnt (L.take q) ⟨pa, g, s, pm, pz⟩ g s rfl rfl] at hD'
      have hwlt : Hid (w.heap.size < wr.heap.size) := by
        obtain ⟨cs, h1, -⟩ := hT.out
        exact (Array.getElem?_eq_some_iff.1 h1).1
      have hg3 : g < 3 := by omega
      have hs100 : s < 100 := by omega
      have HD := hide hD'
      have HM := hide hM
      clear hD hD' hM hp
      go_upto_region 5 with fail
      have HG := hide ((Blks.nil wr).more (.cells #[.int .i64 pa, .int .i64 (g : Int), .int .i64 (s : Int), .int .i64 pm, .int .i64 pz] 58) (by simp))
      have HTa := hide (hT.out.below HG.out.2.2)
      have HBa := hide (hB.out.trans (HG.out.2.2.mono hB.out.size))
      clear hT hB c0 c1 c2 c3 c4
      generalize wr.alloc _ = wa at *
      refine wp_region_reads (fun w' => w'.cell? ⟨wr.heap.size, 1, none⟩ = some (.int .i64 (g : Int)) ∧ w'.cell? ⟨wr.heap.size, 2, none⟩ = some (.int .i64 (s : Int))) [0, 1, 2, 3, 4, 5, 8] 4 (by rfl) (by kernel_rfl) (by kernel_rfl) (by kernel_rfl) (fun c d v a w h => by cases d <;> exact h) ?_ ?_
      · exact ⟨(HG.out.on (Below.refl _ _).drew).cell 0 1 _ _ _ _ rfl rfl rfl, (HG.out.on (Below.refl _ _).drew).cell 0 2 _ _ _ _ rfl rfl rfl⟩
      refine wpPureH_step (.pointer (some ⟨wr.heap.size, 1, none⟩)) rfl rfl (fun w' _ => ?_) ?_
      · go_simp
      refine wpPureH_step (.int .i64 g) rfl rfl (fun w' hS => ?_) ?_
      · obtain ⟨k1, k2⟩ := hS
        go_simp
      refine wpPureH_step (.pointer (some ⟨wr.heap.size, 2, none⟩)) rfl rfl (fun w' _ => ?_) ?_
      · go_simp
      refine wpPureH_step (.int .i64 s) rfl rfl (fun w' hS => ?_) ?_
      · obtain ⟨k1, k2⟩ := hS
        go_simp
      refine wpPureH_step (.pointer (some ⟨w.heap.size, g * 100, none⟩)) rfl rfl (fun w' _ => ?_) ?_
      · go_simp
        intro h; omega
      refine wpPureH_step (.pointer (some ⟨w.heap.size, g * 100 + s, none⟩)) rfl rfl (fun w' _ => ?_) ?_
      · go_simp
        intro h; omega
      refine wpPureH_step (.pointer (some ⟨w.heap.size, g * 100, none⟩)) rfl rfl (fun w' _ => ?_) ?_
      · go_simp
        intro h; omega
      refine wpPureH_nil ?_
      have HGd := hide (HG.out.on (Below.refl _ _).drew)
      have HTd := hide (HTa.out.below (Below.refl _ _).drew)
      have HBd := hide (HBa.out.drew)
      clear HG HTa HBa
      generalize World.drew _ = wb at *
      obtain ⟨k0, f0⟩ := HTd.out.cell hg3 hs100
      have hlt := World.block_lt_of_cell? wb _ k0
      have hsz := HGd.out.2.1
      simp only [List.length_append, List.length_cons, List.length_nil] at hsz
      have hwl : w.heap.size < wr.heap.size := by
        have h1 := hwlt.out
        exact h1
      have hwr : IntKind.i64.wrap ((cntN (L.take q) g s : Int) + 1) = (cntN (L.take q) g s : Int) + 1 := by rw [IntKind.wrap_i64]; omega
      have HX := hide (And.intro (HGd.out.cell 0 1 wr.heap.size _ _ _ rfl rfl rfl) (HGd.out.cell 0 2 wr.heap.size _ _ _ rfl rfl rfl))
      have hgI : (g : Int) < 3 := by omega
      have hsI : (s : Int) < 100 := by omega
      clear HGd
      refine one_readyH (i := 6) (by kernel_rfl) rfl rfl (fun K hK => ?_)
      go_simp
      refine hK _ _ HX.out ?_
      clear hK K
      refine one_readyH (i := 7) (by kernel_rfl) rfl rfl (fun K hK => ?_)
      go_simp
      refine hK _ _ HX.out ?_
      clear hK K
      refine one_readyH (i := 9) (by kernel_rfl) rfl rfl (fun K hK => ?_)
      go_simp
      refine hK _ _ HX.out ?_
      clear hK K
      refine one_readyH (i := 10) (by kernel_rfl) rfl rfl (fun K hK => ?_)
      go_simp
      have HTe := hide (HTd.out.more (p := ⟨pa, g, s, pm, pz⟩) hg3 hs100 rfl rfl)
      rw [← HM.out] at HTe
      have HBe := hide (HBd.out.setCell (p := ⟨w.heap.size, g * 100 + s, none⟩) (Nat.le_refl _) (.int .i64 ((cntN (L.take q) g s : Int) + 1)))
      have HXe := hide (And.intro (cell_set_neF (p := ⟨w.heap.size, g * 100 + s, none⟩) (q := ⟨wr.heap.size, 1, none⟩) (u := .int .i64 ((cntN (L.take q) g s : Int) + 1)) (by simp; omega) HX.out.1) (cell_set_neF (p := ⟨w.heap.size, g * 100 + s, none⟩) (q := ⟨wr.heap.size, 2, none⟩) (u := .int .i64 ((cntN (L.take q) g s : Int) + 1)) (by simp; omega) HX.out.2))
      refine hK _ _ HXe.out ?_
      clear hK K HX HTd HBd k0 f0 hlt hsz
      generalize wb.setCell _ _ = wc at *
      refine wpAnyH_done (by kernel_rfl) ?_ _
      obtain ⟨x1, x2⟩ := HXe.out
      have k0 := (HTe.out.cell hg3 hs100).1
      rw [HM.out, cntN_snoc, if_pos (by simp)] at k0
      generalize hc : cntN (L.take q) g s = c at *
      clear hc
      have k0' : wc.cell? ⟨w.heap.size, g * 100 + s, none⟩ = some (.int .i64 ((c : Int) + 1)) := by rw [k0]; simp
      clear k0
      by_cases hc0 : 0 < c
      · have HR' := hide (show R = true by rw [HR.out, HD.out]; simp [hc0])
        have hc1 : (1 : Int) < (c : Int) + 1 := by omega
        clear HD
        go_wp2_with fail
        go_quiet (fail)
        go_wp2_with fail
        go_ret
        exact ⟨by rw [HR'.out]; rfl, below_drewN HBe.out _⟩
      · have HD' := hide (show dupB L = dupFrom (L.take (q + 1)) (L.drop (q + 1)) by rw [HD.out]; simp [hc0])
        have hc1 : ¬ (1 : Int) < (c : Int) + 1 := by omega
        clear HD
        go_wp2_with fail
        go_quiet (fail)
        go_wp2_with fail
        exact ⟨⟨q + 1, by omega, by simp, HD', HTe.out.below (below_drewN (Below.refl _ _) _), below_drewN HBe.out _⟩, by simp [intOf]; omega⟩
    · have hD' := hD.out
      rw [List.drop_of_length_le (by omega)] at hD'
      have HR' := hide (show R = false by rw [HR.out, hD']; rfl)
      clear hD'
      go_wp2_with fail
      go_ret
      exact ⟨by rw [HR'.out]; rfl, hB.out⟩
open Go.Sort (grow SWO PermIn SortedIn HoldsK size_flatK get_flatK holdsK_grow holdsK_putRowK holdsK_ahead putRowK)
instance : Inhabited TP := ⟨⟨0, 0, 0, 0, 0⟩⟩
def encP (p : TP) : List Value := [.int .i64 p.a, .int .i64 p.g, .int .i64 p.s, .int .i64 p.m, .int .i64 p.z]
theorem ltOf_rise (p q : TP) : ltOf riseV p q = decide (befP p q) := by
  rw [ltOf, decide_eq_decide]
  exact riseV_neg p q
theorem swoP : SWO (ltOf riseV) where
  irrefl x := by rw [ltOf_rise]; simpa using befP_irrefl x
  trans x y z h1 h2 := by
    rw [ltOf_rise, decide_eq_true_eq] at *
    exact befP_trans h1 h2
  ntrans x y z h1 h2 := by
    rw [ltOf_rise, decide_eq_false_iff_not] at *
    unfold befP at *
    omega
theorem cmpLaysP (blk off size : Nat) (w : World) : CmpLays Tryz.prog 120 #[] encP 5 riseV blk off size w :=
  fun _ _ _ _ x y => rise_any x y _
theorem add0P (g j : Nat) : (⟨g, 0, none⟩ : Addr).add j = ⟨g, j, none⟩ := by
  by_cases h : j = 0 <;> simp [Addr.add, h]
theorem holdsP {w : World} {base g c : Nat} {L : List TP} (h : w.ownsRow base 58 5 (.slice (some ⟨g, 0, none⟩) L.length c) L.length (cellsP L)) : HoldsK encP 5 w g 0 L.toArray := by
  intro j hj
  rw [size_flatK] at hj
  have hj' : j < L.length * 5 := by simpa using hj
  rw [get_flatK _ _ _ _ hj, Nat.zero_add, h.cellAt j hj']
  refine ⟨?_, h.frozenAt j⟩
  obtain ⟨p, hp⟩ : ∃ p, L[j / 5]? = some p := ⟨L[j / 5]'(by omega), by simp⟩
  have e := cellsP_get L _ p hp (j % 5) (by omega)
  rw [show j / 5 * 5 + j % 5 = j by omega] at e
  have hd : L.toArray[j / 5]! = p := by
    rw [getElem!_pos _ _ (by simp; omega)]
    simpa using (List.getElem?_eq_some_iff.1 hp).2
  rw [e, hd]
  have h5 : j % 5 < 5 := by omega
  generalize j % 5 = r at *
  match r, h5 with
  | 0, _ | 1, _ | 2, _ | 3, _ | 4, _ => rfl
set_option maxHeartbeats 1600000 in
theorem sortP_any (L : List TP) (base g c : Nat) (w : World) (hown : w.ownsRow base 58 5 (.slice (some ⟨g, 0, none⟩) L.length c) L.length (cellsP L)) (hlen : L.length ≤ 100) :
    Calls Tryz.prog 119 #[.slice (some ⟨g, 0, none⟩) L.length c, .func (.func 120) #[] #[]] w fun e w' =>
      e = .returned (.tuple #[]) ∧ (∃ M : List TP, M.Perm L ∧ (M.Pairwise fun p q => ¬ befP q p) ∧ TapsAt w' (some ⟨g, 0, none⟩) M) ∧ Below base w w' := by
  have eg : ∀ args w, (callFunc 120 args).run Tryz.prog w = .ok (.enter 120 args) w := enters_of Tryz.func120 (by kernel_rfl) rfl
  obtain ⟨hbg, hgl⟩ := hown.lt g rfl
  have hH := holdsP hown
  have hcon := AnyQ.slices_SortFunc sortLay 5 Tryz.isAgg58 Tryz.sizeOf58 encP (fun _ => rfl) (fun x v hv => by simp [encP] at hv; rcases hv with rfl | rfl | rfl | rfl | rfl <;> rfl) riseV swoP 120 #[] g 0 c L.toArray w eg (cmpLaysP g 0 L.toArray.size w) hH hgl (by simp; omega)
  change Calls Tryz.prog 119 _ _ _ at hcon
  rw [show L.toArray.size = L.length by simp] at hcon
  refine hcon.mono ?_
  rintro e w' ⟨rfl, d', n, os, ⟨hs, -, hp⟩, hso, rfl⟩
  have hs' : d'.size = L.length := by simpa using hs
  refine ⟨rfl, ⟨d'.toList, ?_, ?_, ?_⟩, ?_⟩
  · have e1 : d'.extract 0 L.length = d' := by rw [← hs']; simp
    have e2 : L.toArray.extract 0 L.length = L.toArray := by simp
    rw [e1, e2] at hp
    simpa using hp
  · rw [List.pairwise_iff_getElem]
    intro i j hi hj hij
    have hi' : i < d'.size := by simpa using hi
    have hj' : j < d'.size := by simpa using hj
    have h1 := hso i j (Nat.zero_le _) hij (by omega)
    rw [ltOf_rise, decide_eq_false_iff_not, getElem!_pos d' i hi', getElem!_pos d' j hj'] at h1
    simpa using h1
  · have h2 : HoldsK encP 5 (sortWorldK encP 5 w g 0 n d' os) g 0 d' := by
      unfold sortWorldK
      refine holdsK_grow encP 5 _ _ _ _ _ (by simpa [putRowK, Go.Sort.putRow, Go.Sort.mapBlock, Go.Sort.ahead] using hgl) ?_
      exact holdsK_putRowK encP 5 _ _ _ L.toArray d' (holdsK_ahead encP 5 w n g 0 L.toArray hH) (by simpa using hs)
    intro i p hp'
    refine ⟨_, rfl, ?_⟩
    have hi : i < d'.size := by
      have := (List.getElem?_eq_some_iff.1 hp').1
      simpa using this
    have hd : d'[i]! = p := by
      rw [getElem!_pos d' i hi]
      simpa using (List.getElem?_eq_some_iff.1 hp').2
    have hc := fun k hk => (h2.cell (i := i) (c := k) hi hk).1
    rw [hd] at hc
    simp only [Nat.zero_add] at hc
    rw [add0P]
    exact ⟨hc 0 (by omega), hc 1 (by omega), hc 2 (by omega), hc 3 (by omega), hc 4 (by omega)⟩
  · unfold sortWorldK
    refine ⟨rfl, rfl, rfl, ?_, ?_⟩
    · simp [grow, putRowK, Go.Sort.putRow, Go.Sort.mapBlock, Go.Sort.ahead]
    · intro k hk
      simp only [grow, putRowK, Go.Sort.putRow, Go.Sort.mapBlock, Go.Sort.ahead]
      rw [Array.getElem?_append_left (by simp; omega), Array.getElem?_modify, if_neg (by omega)]
theorem dupFrom_false (A L : List TP) : dupFrom A L = false ↔ (DistP L ∧ ∀ a ∈ A, ∀ p ∈ L, ¬ (a.g = p.g ∧ a.s = p.s)) := by
  induction L generalizing A with
  | nil => simp [dupFrom, DistP]
  | cons p L ih =>
    rw [dropFrom_cons, Bool.or_eq_false_iff, ih]
    have h1 : twiceT A p = false ↔ ∀ a ∈ A, ¬ (a.g = p.g ∧ a.s = p.s) := by
      rw [twiceT, List.any_eq_false]
      simp
    rw [h1]
    constructor
    · rintro ⟨h2, h3, h4⟩
      refine ⟨List.pairwise_cons.2 ⟨fun q hq => h4 p (by simp) q hq, h3⟩, fun a ha q hq => ?_⟩
      rcases List.mem_cons.1 hq with rfl | hq
      · exact h2 a ha
      · exact h4 a (by simp [ha]) q hq
    · rintro ⟨h2, h3⟩
      obtain ⟨h4, h5⟩ := List.pairwise_cons.1 h2
      refine ⟨fun a ha => h3 a ha p (by simp), h5, fun a ha q hq => ?_⟩
      rcases List.mem_append.1 ha with ha | ha
      · exact h3 a ha q (by simp [hq])
      · obtain rfl : a = p := by simpa using ha
        exact h4 q hq
theorem dupB_false (L : List TP) : dupB L = false ↔ DistP L := by
  rw [dupB, dupFrom_false]
  simp
theorem firstE_map_zero {L : List TP} : firstE (L.map chkT) = 0 ↔ ∀ p ∈ L, chkT p = 0 := by
  induction L with
  | nil => simp [firstE]
  | cons p L ih =>
    rw [List.map_cons, firstE]
    by_cases h : chkT p = 0
    · rw [if_pos h, ih]
      simp [h]
    · rw [if_neg h]
      simp [h]
theorem chkT_range {p : TP} (h : chkT p = 0) : (0 ≤ p.g ∧ p.g ≤ 2) ∧ (1 ≤ p.s ∧ p.s ≤ 99) := by
  rw [chkT, chkP] at h
  by_cases h1 : (wi p.a 1 9999 && wi p.g 0 2 && wi p.s 1 99 && wi p.m 0 9999) = false
  · rw [if_pos h1] at h; omega
  · simp only [Bool.not_eq_false, Bool.and_eq_true, wi_iff] at h1
    exact ⟨h1.1.1.2, h1.1.2⟩
def ordE (L : List TP) : Int := if 72 < L.length then 2 else if firstE (L.map chkT) = 0 then (if dupB L = true then 6 else 0) else firstE (L.map chkT)
def ordR (L : List TP) : List TP := if ordE L = 0 then srt L else []
theorem ordE_ways (L : List TP) : (72 < L.length ∧ ordE L = 2 ∧ ordR L = []) ∨ (L.length ≤ 72 ∧ (firstE (L.map chkT) != 0) = true ∧ ordE L = firstE (L.map chkT) ∧ ordR L = []) ∨ (L.length ≤ 72 ∧ firstE (L.map chkT) = 0 ∧ dupB L = true ∧ ordE L = 6 ∧ ordR L = []) ∨
    (L.length ≤ 72 ∧ firstE (L.map chkT) = 0 ∧ dupB L = false ∧ ordE L = 0 ∧ ordR L = srt L) := by
  by_cases h1 : 72 < L.length
  · have e : ordE L = 2 := by rw [ordE, if_pos h1]
    left; exact ⟨h1, e, by rw [ordR, e]; rfl⟩
  · right
    by_cases h2 : firstE (L.map chkT) = 0
    · right
      cases h3 : dupB L
      · have e : ordE L = 0 := by rw [ordE, if_neg h1, if_pos h2, h3]; rfl
        right; exact ⟨by omega, h2, rfl, e, by rw [ordR, e]; rfl⟩
      · have e : ordE L = 6 := by rw [ordE, if_neg h1, if_pos h2, h3]; rfl
        left; exact ⟨by omega, h2, rfl, e, by rw [ordR, e]; rfl⟩
    · have e : ordE L = firstE (L.map chkT) := by rw [ordE, if_neg h1, if_neg h2]
      left; exact ⟨by omega, by simpa using h2, e, by rw [ordR, e, if_neg h2]⟩
theorem ordE_right {L : List TP} (h : ordE L = 0) : L.length ≤ 72 ∧ (∀ p ∈ L, chkT p = 0) ∧ DistP L := by
  rcases ordE_ways L with ⟨-, h2, -⟩ | ⟨-, h1, h2, -⟩ | ⟨-, -, -, h2, -⟩ | ⟨h1, h2, h3, -⟩
  · omega
  · rw [h2] at h
    rw [h] at h1
    simp at h1
  · omega
  · exact ⟨h1, firstE_map_zero.1 h2, (dupB_false L).1 h3⟩
set_option maxHeartbeats 1600000 in
theorem clonePO_any (L : List TP) (A : Addr) (cap : Nat) (w : World) (hL : TapsAt w (some A) L) (hlen : L.length ≤ 72) :
    Calls Tryz.prog 118 #[.slice (some A) L.length cap] w fun e w' => (∃ g c, e = .returned (.slice (some ⟨g, 0, none⟩) L.length c) ∧ w.heap.size ≤ g ∧ L.length ≤ c ∧ w'.ownsRow w.heap.size 58 5 (.slice (some ⟨g, 0, none⟩) L.length c) L.length (cellsP L)) ∧ Below w.heap.size w w' := by
  obtain ⟨i0, hi, hz0, hz1, hz2⟩ := info_parts info32
  have q : ∀ (w : World) (a : Option Addr) (n c n' c' : Nat), (binOp .eql 23 (.slice a n c) (.slice none n' c')).run Tryz.prog w = .ok (.bool a.isNone) w := fun w a n c n' c' => Lib.run_eql_slice_nil w _ _ a n c n' c' Tryz.underlying23
  have HN := hide (taps_cells (hL.below ((Below.refl w.heap.size w).alloc (Nat.le_refl _) (.cells #[] 58))))
  have HO := hide (World.ownsRow_made (base := w.heap.size) (e := 58) (size := 5) w #[] 0 (Nat.le_refl _) (by decide) rfl)
  clear hL
  go_enter Tryz.func118, Tryz.ntmps118
  go_wp2_with (at_builtin; refine wpList_append_own _ rfl _ _ 23 rfl w.heap.size 58 i0 _ 5 40 Tryz.underlying23 hi hz0 hz1 hz2 rfl (by decide) _ 0 _ rfl HO.out A L.length cap (cellsP L) rfl (cellsP_len L) HN.out (oneP L) (by unfold maxLen; omega) (by omega) (by simp) ?_; intro v1 w1 hown1 hgrow1 hnil)
  go_ret
  refine ⟨?_, ((Below.refl w.heap.size w).alloc (Nat.le_refl _) _).grown hgrow1 (by simp) (fun k hk => (HO.out.lt k hk).1)⟩
  have hn : 0 + L.length = L.length := by omega
  rw [hn] at hown1
  rcases hown1.2 with ⟨h0, -⟩ | ⟨g, c, cur, rfl, hg, -, hc, -⟩
  · have := (hnil.1 h0).1
    simp [Act.eval] at this
  · exact ⟨g, c, rfl, hg, hc, hown1⟩
theorem tapsV_nilO (w : World) : TapsV w (.slice none 0 0) [] := ⟨none, 0, rfl, fun i p h => by simp at h, by simp, fun _ => rfl⟩
theorem fresh_nilO (B : Nat) : Fresh B (.slice none 0 0) := fun k hk => by simp [Value.ownBlock] at hk
theorem cloneNil (w : World) : Calls Tryz.prog 118 #[.slice none 0 0] w fun e w' => e = .returned (.slice none 0 0) ∧ w' = w := by
  have q : ∀ (w : World) (a : Option Addr) (n c n' c' : Nat), (binOp .eql 23 (.slice a n c) (.slice none n' c')).run Tryz.prog w = .ok (.bool a.isNone) w := fun w a n c n' c' => Lib.run_eql_slice_nil w _ _ a n c n' c' Tryz.underlying23
  go_enter Tryz.func118, Tryz.ntmps118
  go_wp2
  go_ret
  exact ⟨rfl, rfl⟩
theorem sortNil (w : World) : Calls Tryz.prog 119 #[.slice none 0 0, .func (.func 120) #[] #[]] w fun e w' => e = .returned (.tuple #[]) ∧ w' = w := by
  have h := AnyF.slices_SortFunc_none sortLay none 0 (.func (.func 120) #[] #[]) w
  change Calls Tryz.prog 119 _ _ _ at h
  exact h
set_option maxHeartbeats 3200000 in
theorem order_any (o : Option Addr) (cap : Nat) (L : List TP) (w : World) (hL : TapsAt w o L) (hlen : L.length ≤ 9223372036854775807) (hnone : o = none → cap = 0) :
    Calls Tryz.prog 67 #[.slice o L.length cap] w fun e w' => (∃ o' n c', e = .returned (.tuple #[.slice o' n c', .int .i64 (ordE L)]) ∧ TapsV w' (.slice o' n c') (ordR L) ∧ Fresh w.heap.size (.slice o' n c')) ∧ Below w.heap.size w w' := by
  have HL := hide hL
  have HC := hide (fun W (h : TapsAt W o L) => eachC_any o cap L W h hlen)
  rcases ordE_ways L with ⟨h1, h2, h3⟩ | ⟨h1, h4, h2, h3⟩ | ⟨h1, h4, h5, h2, h3⟩ | ⟨h1, h4, h5, h2, h3⟩
  · rw [h2, h3]
    have h1' : (72 : Int) < (L.length : Int) := by omega
    clear hL h1 h2 h3
    go_enter Tryz.func67, Tryz.ntmps67
    go_wp2_with fail
    go_ret2
    exact ⟨⟨_, _, _, rfl, tapsV_nilO _, fresh_nilO _⟩, Below.refl _ _⟩
  · rw [h2, h3]
    have h1' : ¬ (72 : Int) < (L.length : Int) := by omega
    clear hL h1 h2 h3
    generalize firstE (L.map chkT) = E at *
    go_enter Tryz.func67, Tryz.ntmps67
    go_wp2_with fail
    refine (HC.out _ HL.out).mono ?_
    rintro e w1 ⟨rfl, hb⟩
    have HB := hide hb
    clear hb
    go_wp2_with fail
    go_ret2
    exact ⟨⟨_, _, _, rfl, tapsV_nilO _, fresh_nilO _⟩, HB.out⟩
  · have HT := hide (fun W (h : TapsAt W o L) => twice_any o cap L W h h1 (fun p hp => chkT_range (firstE_map_zero.1 h4 p hp)))
    rw [h5] at HT
    rw [h4] at HC
    rw [h2, h3]
    have h1' : ¬ (72 : Int) < (L.length : Int) := by omega
    clear hL h1 h2 h3 h4 h5
    go_enter Tryz.func67, Tryz.ntmps67
    go_wp2_with fail
    refine (HC.out _ HL.out).mono ?_
    rintro e w1 ⟨rfl, hb⟩
    have HB := hide hb
    have HL1 := hide (HL.out.below hb)
    clear hb
    go_wp2_with fail
    refine (HT.out _ HL1.out).mono ?_
    rintro e w2 ⟨rfl, hb⟩
    have HB2 := hide (HB.out.trans (hb.mono HB.out.size))
    clear hb
    go_wp2_with fail
    go_ret2
    exact ⟨⟨_, _, _, rfl, tapsV_nilO _, fresh_nilO _⟩, HB2.out⟩
  · have HT := hide (fun W (h : TapsAt W o L) => twice_any o cap L W h h1 (fun p hp => chkT_range (firstE_map_zero.1 h4 p hp)))
    rw [h5] at HT
    rw [h4] at HC
    rw [h2]
    have hd := (dupB_false L).1 h5
    have h1' : ¬ (72 : Int) < (L.length : Int) := by omega
    clear h2 h4 h5
    cases o with
    | none =>
      have hL0 : L = [] := by
        cases L with
        | nil => rfl
        | cons x L => obtain ⟨b, hb, -⟩ := hL 0 x rfl; cases hb
      subst hL0
      obtain rfl := hnone rfl
      have hs0 : srt [] = [] := List.eq_nil_of_length_eq_zero (srt_len [])
      rw [h3, hs0]
      clear hL h3 hd hs0 h1
      go_enter Tryz.func67, Tryz.ntmps67
      go_wp2_with fail
      refine (HC.out _ HL.out).mono ?_
      rintro e w1 ⟨rfl, hb⟩
      have HB := hide hb
      have HL1 := hide (HL.out.below hb)
      clear hb
      go_wp2_with fail
      refine (HT.out _ HL1.out).mono ?_
      rintro e w2 ⟨rfl, hb⟩
      have HL2 := hide (HL1.out.below hb)
      have HB2 := hide (HB.out.trans (hb.mono HB.out.size))
      clear hb
      go_wp2_with fail
      refine (cloneNil w2).mono ?_
      rintro e w3 ⟨rfl, hw3⟩
      obtain rfl := hw3.symm
      go_wp2_with fail
      refine (sortNil w2).mono ?_
      rintro e w3 ⟨rfl, hw3⟩
      obtain rfl := hw3.symm
      go_wp2_with fail
      go_ret2
      exact ⟨⟨_, _, _, rfl, tapsV_nilO _, fresh_nilO _⟩, HB2.out⟩
    | some A =>
      have HK := hide (fun W (h : TapsAt W (some A) L) => clonePO_any L A cap W h h1)
      have HD := hide hd
      have H3 := hide h3
      have hlL : L.length ≤ 100 := by omega
      clear hL hd h1 h3
      generalize ordR L = R at *
      go_enter Tryz.func67, Tryz.ntmps67
      go_wp2_with fail
      refine (HC.out _ HL.out).mono ?_
      rintro e w1 ⟨rfl, hb⟩
      have HB := hide hb
      have HL1 := hide (HL.out.below hb)
      clear hb
      go_wp2_with fail
      refine (HT.out _ HL1.out).mono ?_
      rintro e w2 ⟨rfl, hb⟩
      have HL2 := hide (HL1.out.below hb)
      have HB2 := hide (HB.out.trans (hb.mono HB.out.size))
      clear hb
      go_wp2_with fail
      refine (HK.out _ HL2.out).mono ?_
      rintro e w3 ⟨⟨g, c, rfl, hg, hc, hown⟩, hb⟩
      have HO := hide hown
      have HB3 := hide (HB2.out.trans (hb.mono HB2.out.size))
      have HG := hide (show w.heap.size ≤ g from Nat.le_trans HB2.out.size hg)
      have HCc := hide hc
      have HB23 := hide HB2.out.size
      clear hown hb hg hc
      go_wp2_with fail
      refine (sortP_any L w2.heap.size g c w3 HO.out hlL).mono ?_
      rintro e w4 ⟨rfl, ⟨M, hp, hs, hM⟩, hb4⟩
      have hord : Ord M := (hs.and (HD.out.perm hp.symm)).imp (fun ⟨h1, h2⟩ => befP_total h2 h1)
      have hMe : M = R := (srt_eq hord hp HD.out).trans H3.out.symm
      have hMl := hp.length_eq
      subst hMe
      have HM := hide hM
      have HB4 := hide (HB3.out.trans (hb4.mono HB23.out))
      have HLn := hide hMl
      clear hp hs hM hb4 hord hMl
      go_wp2_with fail
      go_ret2
      refine ⟨⟨_, _, _, rfl, ⟨some ⟨g, 0, none⟩, c, ?_, HM.out, ?_, fun h => by cases h⟩, fun k hk => by cases hk; exact HG.out⟩, HB4.out⟩
      · rw [HLn.out]
      · rw [HLn.out]; exact HCc.out
end Go.Proofs.YtcjfmbeemdcklaaGreat

/-
  'each' with a builder's 'enter' (package merge).
-/
namespace Go.Proofs.YtcjfmbeemdcklaaGreat
open Go.RowKit
def bldA (T : List TK) : List TP → List TP → List Int → List TP → Int × List TP × List Int × List TP
  | [], P, V, D => (0, P, V, D)
  | p :: L, P, V, D => if bldE T P V p = 0 then bldA T L (bldP T P V p) (bldV T P V p) (bldD T P V D p) else (bldE T P V p, P, V, D)
theorem Bld.below {w w' : World} {B base F : Nat} {T : List TK} {P : List TP} {V : List Int} {D : List TP} (h : Bld w B base F T P V D) (hb : Below w.heap.size w w') : Bld w' B base F T P V D := by
  obtain ⟨o1, c1, o2, c2, o3, c3, o4, c4, h1, h2, h3, h4, h5, h6⟩ := h
  exact ⟨o1, c1, o2, c2, o3, c3, o4, c4, at_below h1 hb, h2.below hb, ownsRow_below h3 hb, h4, Nat.le_trans h5 hb.size, h6⟩
theorem Bld.lt {w : World} {B base F : Nat} {T : List TK} {P : List TP} {V : List Int} {D : List TP} (h : Bld w B base F T P V D) : B < w.heap.size := by
  obtain ⟨o1, c1, o2, c2, o3, c3, o4, c4, h1, h2, h3, h4, h5, h6⟩ := h
  omega
theorem TapsAt.keepB {w w' : World} {o : Option Addr} {L : List TP} {B : Nat} (h : TapsAt w o L) (hb : Below B w w') (hlt : ∀ A, o = some A → L ≠ [] → A.block < B) : TapsAt w' o L := fun i p hi => by
  obtain ⟨b, e, h5⟩ := h i p hi
  exact ⟨b, e, h5.below hb (by rw [addr_blk]; exact hlt b e (fun h => by simp [h] at hi))⟩
theorem bld_keeps {T : List TK} {P : List TP} {V : List Int} {D : List TP} {p : TP} (h : bldE T P V p ≠ 0) : bldP T P V p = P ∧ bldV T P V p = V ∧ bldD T P V D p = D := by
  unfold bldE at h
  unfold bldP bldV bldD
  by_cases h1 : (enterV T P V p).2 = 0
  · rw [if_pos h1] at h; exact absurd rfl h
  · rw [if_neg h1] at h
    by_cases h2 : (enterV T P V p).1 = 3 ∨ (enterV T P V p).2 = 5
    · rw [if_pos h2] at h; exact absurd rfl h
    · simp [h1, h2]
theorem bld_lens (T : List TK) (P : List TP) (V : List Int) (D : List TP) (p : TP) (n : Nat) (h1 : P.length ≤ n) (h2 : V.length ≤ n) (h3 : D.length ≤ n) : (bldP T P V p).length ≤ n + 1 ∧ (bldV T P V p).length ≤ n + 1 ∧ (bldD T P V D p).length ≤ n + 1 := by
  unfold bldP bldV bldD
  refine ⟨?_, ?_, ?_⟩
  · split
    · simp; omega
    · omega
  · split
    · simp; omega
    · omega
  · split
    · omega
    · split
      · simp; omega
      · omega
set_option maxHeartbeats 3200000 in
theorem eachB_any (B base F : Nat) (T : List TK) (o : Option Addr) (cap : Nat) (L : List TP) (w : World) (hB : Bld w B base F T [] [] []) (hT : T.length ≤ 9223372036854775807) (hL : TapsAt w o L) (hlt : ∀ A, o = some A → L ≠ [] → A.block < B) (hlen : L.length ≤ 72) :
    Calls Tryz.prog 115 #[.slice o L.length cap, .func (.func 123) #[.pointer (some ⟨B, 0, none⟩)] #[]] w fun x w' => (x = .returned (.int .i64 (bldA T L [] [] []).1) ∧ Bld w' B base F T (bldA T L [] [] []).2.1 (bldA T L [] [] []).2.2.1 (bldA T L [] [] []).2.2.2) ∧ Below B w w' := by
  have HL := hide hL
  have HLt := hide hlt
  have HB := hide hB
  have HT := hide hT
  obtain ⟨R, hR⟩ : ∃ R, R = bldA T L [] [] [] := ⟨_, rfl⟩
  rw [← hR]
  have HR := hide hR
  have hBw := hB.lt
  clear hL hlt hB hT hR
  go_enter Tryz.func115, Tryz.ntmps115
  go_wp2_with fail
  go_loopw [10] (fun j wr => ∃ (q : Nat) (P : List TP) (V : List Int) (D : List TP), q ≤ L.length ∧ j = .int .i64 q ∧ Hid (bldA T L [] [] [] = bldA T (L.drop q) P V D) ∧ Hid (P.length ≤ q ∧ V.length ≤ q ∧ D.length ≤ q) ∧ Hid (Bld wr B base F T P V D) ∧ Hid (Below B w wr)) (fun j _ => L.length - (intOf j).toNat)
  case atStart => exact ⟨0, [], [], [], Nat.zero_le _, rfl, by show _ = _; simp, ⟨by simp, by simp, by simp⟩, HB, Below.refl _ _⟩
  case round =>
    obtain ⟨q, P, V, D, hq, rfl, hE, hN, hBr, hW⟩ := hrel
    by_cases hgo : q < L.length
    · obtain ⟨p, hp⟩ : ∃ p, L[q]? = some p := ⟨L[q], by simp [hgo]⟩
      obtain ⟨A, rfl, c0, c1, c2, c3, c4⟩ := (HL.out.keepB hW.out HLt.out) q p hp
      have hE' := hE.out
      rw [dropP hp, bldA] at hE'
      have HE := hide hE'
      have hal := (Below.refl wr.heap.size wr).alloc (Nat.le_refl _) (.cells #[.int .i64 p.a, .int .i64 p.g, .int .i64 p.s, .int .i64 p.m, .int .i64 p.z] 58)
      have HV := hide (bEnter_any B base F T P V D p.a p.g p.s p.m p.z _ (hBr.out.below hal) ⟨HT.out, by have := hN.out; omega, by have := hN.out; omega⟩ (by have := hN.out; omega))
      have HWa := hide (hW.out.trans (hal.mono (Nat.le_of_lt hBr.out.lt)))
      have HN' := hide (bld_lens T P V D p q hN.out.1 hN.out.2.1 hN.out.2.2)
      have HK := hide (fun h => bld_keeps (T := T) (P := P) (V := V) (D := D) (p := p) h)
      clear hE hE' hp hal hN hW hBr
      go_wp2_with fail
      refine HV.out.mono ?_
      rintro e w3 ⟨⟨rfl, hb2⟩, hb3⟩
      have HB3 := hide (HWa.out.trans hb3)
      have HBld := hide hb2
      clear hb2 hb3 HV HWa
      have hp' : (⟨p.a, p.g, p.s, p.m, p.z⟩ : TP) = p := rfl
      rw [hp'] at HBld
      rw [hp']
      clear hp'
      by_cases h0 : bldE T P V p = 0
      · have HE' := hide (show bldA T L [] [] [] = bldA T (L.drop (q + 1)) (bldP T P V p) (bldV T P V p) (bldD T P V D p) by rw [HE.out, if_pos h0])
        rw [h0]
        clear h0 HE HK
        generalize bldP T P V p = P' at *
        generalize bldV T P V p = V' at *
        generalize bldD T P V D p = D' at *
        go_wp2_with fail
        exact ⟨⟨q + 1, P', V', D', by omega, by simp, HE', HN', HBld, HB3⟩, by simp [intOf]; omega⟩
      · have h0' : (bldE T P V p != 0) = true := by simpa using h0
        have HE' := hide (show R = (bldE T P V p, P, V, D) by rw [HR.out, HE.out, if_neg h0])
        obtain ⟨k1, k2, k3⟩ := HK.out h0
        rw [k1, k2, k3] at HBld
        clear h0 HE HK k1 k2 k3 HN'
        generalize bldE T P V p = E at *
        go_wp2_with fail
        go_ret
        exact ⟨⟨by rw [HE'.out]; rfl, by rw [HE'.out]; exact HBld.out⟩, HB3.out⟩
    · have hE' := hE.out
      rw [List.drop_of_length_le (by omega), bldA] at hE'
      have HE' := hide (show R = (0, P, V, D) by rw [HR.out, hE'])
      clear hE'
      go_wp2_with fail
      go_ret
      exact ⟨⟨by rw [HE'.out]; rfl, by rw [HE'.out]; exact hBr.out⟩, hW.out⟩
end Go.Proofs.YtcjfmbeemdcklaaGreat

/-
  'Into' (package merge).
-/
namespace Go.Proofs.YtcjfmbeemdcklaaGreat
open Go.RowKit
def intoB (T : List TK) (P M : List TP) : Int × List TP × List Int × List TP := bldA T (srt (P ++ M)) [] [] []
def intoE (T : List TK) (P : List TP) (V : List Int) (M : List TP) : Int :=
  if chkL T P V = 0 then (if 12 < M.length then 2 else if ordE (P ++ M) = 0 then (intoB T P M).1 else ordE (P ++ M)) else chkL T P V
def intoT (T : List TK) (P : List TP) (V : List Int) (M : List TP) : List TK := if intoE T P V M = 0 then T else []
def intoP (T : List TK) (P : List TP) (V : List Int) (M : List TP) : List TP := if intoE T P V M = 0 then (intoB T P M).2.1 else []
def intoV (T : List TK) (P : List TP) (V : List Int) (M : List TP) : List Int := if intoE T P V M = 0 then (intoB T P M).2.2.1 else []
def intoD (T : List TK) (P : List TP) (V : List Int) (M : List TP) : List TP := if intoE T P V M = 0 then (intoB T P M).2.2.2 else []
theorem into_ways (T : List TK) (P : List TP) (V : List Int) (M : List TP) : ((chkL T P V != 0) = true ∧ intoE T P V M = chkL T P V) ∨ (chkL T P V = 0 ∧ 12 < M.length ∧ intoE T P V M = 2) ∨ (chkL T P V = 0 ∧ M.length ≤ 12 ∧ (ordE (P ++ M) != 0) = true ∧ intoE T P V M = ordE (P ++ M)) ∨
    (chkL T P V = 0 ∧ M.length ≤ 12 ∧ ordE (P ++ M) = 0 ∧ ((intoB T P M).1 != 0) = true ∧ intoE T P V M = (intoB T P M).1) ∨ (chkL T P V = 0 ∧ M.length ≤ 12 ∧ ordE (P ++ M) = 0 ∧ (intoB T P M).1 = 0 ∧ intoE T P V M = 0) := by
  unfold intoE
  by_cases h1 : chkL T P V = 0
  · right
    rw [if_pos h1]
    by_cases h2 : 12 < M.length
    · left; exact ⟨h1, h2, if_pos h2⟩
    · right
      rw [if_neg h2]
      by_cases h3 : ordE (P ++ M) = 0
      · right
        rw [if_pos h3]
        by_cases h4 : (intoB T P M).1 = 0
        · right; exact ⟨h1, by omega, h3, h4, h4⟩
        · left; exact ⟨h1, by omega, h3, by simpa using h4, rfl⟩
      · left; rw [if_neg h3]; exact ⟨h1, by omega, by simpa using h3, rfl⟩
  · left; rw [if_neg h1]; exact ⟨by simpa using h1, rfl⟩
theorem into_err {T : List TK} {P : List TP} {V : List Int} {M : List TP} (h : intoE T P V M ≠ 0) : intoT T P V M = [] ∧ intoP T P V M = [] ∧ intoV T P V M = [] ∧ intoD T P V M = [] := by
  simp [intoT, intoP, intoV, intoD, h]
theorem chkL_lens {T : List TK} {P : List TP} {V : List Int} (h : chkL T P V = 0) : T.length ≤ 12 ∧ P.length ≤ 60 ∧ V.length = P.length := by
  have := chkL_right h
  exact ⟨by omega, by omega, by omega⟩
theorem taps_lt {w : World} {o : Option Addr} {L : List TP} (h : TapsAt w o L) (A : Addr) (hA : o = some A) (hne : L ≠ []) : A.block < w.heap.size := by
  cases L with
  | nil => exact absurd rfl hne
  | cons p L =>
    obtain ⟨b, hb, c0, -⟩ := h 0 p rfl
    rw [hA] at hb
    cases hb
    have := World.block_lt_of_cell? w _ c0
    rwa [addr_blk] at this
set_option maxHeartbeats 6400000 in
set_option maxRecDepth 100000 in
theorem into_any (T : List TK) (P : List TP) (V : List Int) (M : List TP) (o1 o2 o3 om : Option Addr) (c1 c2 c3 cm : Nat) (w : World) (hled : LedV w (lg o1 o2 o3 T.length c1 P.length c2 V.length c3) T P V) (hl : LensOk T P V) (hM : TapsAt w om M) (hlM : M.length ≤ 9223372036854775807) (hnM : om = none → cm = 0) :
    Calls Tryz.prog 69 #[lg o1 o2 o3 T.length c1 P.length c2 V.length c3, .slice om M.length cm] w fun e w' =>
      (∃ lv od nd cd, e = .returned (.tuple #[lv, .slice od nd cd, .int .i64 (intoE T P V M)]) ∧ LedN w.heap.size w' lv (intoT T P V M) (intoP T P V M) (intoV T P V M) ∧ TapsV w' (.slice od nd cd) (intoD T P V M) ∧ Fresh w.heap.size (.slice od nd cd)) ∧ Below w.heap.size w w' := by
  have HG := hide (((Blks.nil w).more (.cells #[.slice o1 T.length c1, .slice o2 P.length c2, .slice o3 V.length c3] 26) (by simp)).more (.cells #[.slice none 0 0, .slice none 0 0, .slice none 0 0] 26) (by simp))
  have HCk := hide (fun W (h : LedV W (lg o1 o2 o3 T.length c1 P.length c2 V.length c3) T P V) => checkV h hl)
  have HLed := hide hled
  have HM := hide hM
  rcases into_ways T P V M with ⟨h1, h2⟩ | ⟨h1, h3, h2⟩ | ⟨h1, h3, h4, h2⟩ | ⟨h1, h3, h4, h5, h2⟩ | ⟨h1, h3, h4, h5, h2⟩
  · have hne : intoE T P V M ≠ 0 := by rw [h2]; simpa using h1
    obtain ⟨e1, e2, e3, e4⟩ := into_err hne
    rw [e1, e2, e3, e4, h2]
    clear hled hM hne e1 e2 e3 e4 h2
    generalize chkL T P V = E at *
    go_enter Tryz.func69, Tryz.ntmps69
    go_wp2_with fail
    refine (HCk.out _ (HLed.out.below HG.out.2.2)).mono ?_
    rintro e w1 ⟨rfl, hb⟩
    have HG1 := hide (HG.out.on hb)
    clear hb HG
    have lr := HG1.out.lt 1 (w.heap.size + 1) (by simp) rfl
    obtain ⟨r0, r1, r2⟩ := HG1.out.c3 1 (w.heap.size + 1) rfl rfl rfl rfl rfl
    obtain ⟨f0, f1, f2⟩ := HG1.out.z3 1 (w.heap.size + 1) rfl rfl
    go_wp2_with fail
    refine bodyPost_ret (v := .tuple #[lg none none none 0 0 0 0 0 0, .slice none 0 0, .int .i64 E]) (by simp [results, Tryz.results69, go_sem, *]) rfl ⟨⟨_, _, _, _, rfl, ledN_none _ _, tapsV_nilO _, fresh_nilO _⟩, ?_⟩
    repeat (first | with_reducible refine Below.setCell ?_ (by simp; try omega) _ | exact HG1.out.2.2)
  · have hne : intoE T P V M ≠ 0 := by rw [h2]; decide
    obtain ⟨e1, e2, e3, e4⟩ := into_err hne
    rw [e1, e2, e3, e4, h2]
    rw [h1] at HCk
    have h3' : (12 : Int) < (M.length : Int) := by omega
    clear hled hM hne e1 e2 e3 e4 h2 h1 h3
    go_enter Tryz.func69, Tryz.ntmps69
    go_wp2_with fail
    refine (HCk.out _ (HLed.out.below HG.out.2.2)).mono ?_
    rintro e w1 ⟨rfl, hb⟩
    have HG1 := hide (HG.out.on hb)
    clear hb HG
    have lr := HG1.out.lt 1 (w.heap.size + 1) (by simp) rfl
    obtain ⟨r0, r1, r2⟩ := HG1.out.c3 1 (w.heap.size + 1) rfl rfl rfl rfl rfl
    obtain ⟨f0, f1, f2⟩ := HG1.out.z3 1 (w.heap.size + 1) rfl rfl
    go_wp2_with fail
    refine bodyPost_ret (v := .tuple #[lg none none none 0 0 0 0 0 0, .slice none 0 0, .int .i64 2]) (by simp [results, Tryz.results69, go_sem, *]) rfl ⟨⟨_, _, _, _, rfl, ledN_none _ _, tapsV_nilO _, fresh_nilO _⟩, ?_⟩
    repeat (first | with_reducible refine Below.setCell ?_ (by simp; try omega) _ | exact HG1.out.2.2)
  · have hne : intoE T P V M ≠ 0 := by rw [h2]; simpa using h4
    obtain ⟨e1, e2, e3, e4⟩ := into_err hne
    rw [e1, e2, e3, e4, h2]
    clear hne e1 e2 e3 e4 h2
    have hlens := chkL_lens h1
    rw [h1] at HCk
    have h3' : ¬ (12 : Int) < (M.length : Int) := by omega
    have HOr := hide (fun W o c (h : TapsAt W o (P ++ M)) (hn : o = none → c = 0) => order_any o c (P ++ M) W h (by simp; omega) hn)
    have hsum : lenS [(o2, P, c2), (om, M, cm)] ≤ 100 := by simp [lenS]; omega
    have HCc := hide (fun (W : World) (h : PiecesP W ⟨W.heap.size - 1, 0, none⟩ [(o2, P, c2), (om, M, cm)]) => concatP_any _ _ 2 W h (by simp) hsum)
    have hfl : ([(o2, P, c2), (om, M, cm)] : List (Option Addr × List TP × Nat)).flatMap (fun x => x.2.1) = P ++ M := by simp
    rw [hfl] at HCc
    have HTap := hide HLed.out.parts3.2.1.eqs
    have HTik := hide HLed.out.parts3.1.eqs
    have HLn := hide hlens
    clear hled hM hl hlM h1 h3 hsum hfl hlens
    generalize ordE (P ++ M) = E at *
    generalize P ++ M = Q at *
    go_enter Tryz.func69, Tryz.ntmps69
    go_wp2_with fail
    refine (HCk.out _ (HLed.out.below HG.out.2.2)).mono ?_
    rintro e w1 ⟨rfl, hb⟩
    have HG1 := hide (HG.out.on hb)
    clear hb HG
    obtain ⟨l0, l1, l2⟩ := HG1.out.c3 0 w.heap.size rfl rfl rfl rfl rfl
    have lr := HG1.out.lt 1 (w.heap.size + 1) (by simp) rfl
    obtain ⟨r0, r1, r2⟩ := HG1.out.c3 1 (w.heap.size + 1) rfl rfl rfl rfl rfl
    obtain ⟨f0, f1, f2⟩ := HG1.out.z3 1 (w.heap.size + 1) rfl rfl
    go_wp2_with fail
    have HGp := hide ((Blks.nil w1).more (.cells #[.slice o2 P.length c2, .slice om M.length cm] 23) (by simp))
    have HG1p := hide (HG1.out.on HGp.out.2.2)
    have hpc : PiecesP (w1.alloc (.cells #[.slice o2 P.length c2, .slice om M.length cm] 23)) ⟨(w1.alloc (.cells #[.slice o2 P.length c2, .slice om M.length cm] 23)).heap.size - 1, 0, none⟩ [(o2, P, c2), (om, M, cm)] := by
      have hb := HG1p.out.2.2
      intro q o L cap hq
      match q, hq with
      | 0, hq =>
        simp at hq
        obtain ⟨rfl, rfl, rfl⟩ := hq
        exact ⟨by simp [Addr.add, go_sem], HTap.out.2.1.below hb, HTap.out.2.2.2⟩
      | 1, hq =>
        simp at hq
        obtain ⟨rfl, rfl, rfl⟩ := hq
        exact ⟨by simp [Addr.add, go_sem], HM.out.below hb, hnM⟩
    have HPc := hide (HCc.out _ hpc)
    have hz1 : (w1.alloc (.cells #[.slice o2 P.length c2, .slice om M.length cm] 23)).heap.size - 1 = w1.heap.size := by simp
    rw [hz1] at HPc
    clear hpc hz1 l0 l1 l2 lr r0 r1 r2 f0 f1 f2
    refine HPc.out.mono ?_
    rintro e w2 ⟨⟨cv, rfl, hcv, -⟩, hb⟩
    obtain ⟨oc, cc, rfl, hcv, -, hnc⟩ := hcv
    have HG2 := hide (HG1p.out.on hb)
    have HCv := hide hcv
    clear hb hcv HPc HGp HG1p HG1
    go_wp2_with fail
    refine (HOr.out _ oc cc HCv.out hnc).mono ?_
    rintro e w3 ⟨⟨oo, no, co, rfl, hov, hof⟩, hb⟩
    have HG3 := hide (HG2.out.on hb)
    have HOv := hide hov
    have HOf := hide hof
    have hsz2 := HG2.out.2.1
    simp only [List.length_append, List.length_cons, List.length_nil] at hsz2
    clear hb hov hof HG2 HCv hnc
    obtain ⟨l0, l1, l2⟩ := HG3.out.c3 0 w.heap.size rfl rfl rfl rfl rfl
    have lr := HG3.out.lt 1 (w.heap.size + 1) (by simp) rfl
    obtain ⟨r0, r1, r2⟩ := HG3.out.c3 1 (w.heap.size + 1) rfl rfl rfl rfl rfl
    obtain ⟨f0, f1, f2⟩ := HG3.out.z3 1 (w.heap.size + 1) rfl rfl
    go_wp2_with fail
    refine bodyPost_ret (v := .tuple #[lg none none none 0 0 0 0 0 0, .slice none 0 0, .int .i64 E]) (by simp [results, Tryz.results69, go_sem, *]) rfl ⟨⟨_, _, _, _, rfl, ledN_none _ _, tapsV_nilO _, fresh_nilO _⟩, ?_⟩
    repeat (first | with_reducible refine Below.setCell ?_ (by simp; try omega) _ | exact HG3.out.2.2)
  · have hne : intoE T P V M ≠ 0 := by rw [h2]; simpa using h5
    obtain ⟨e1, e2, e3, e4⟩ := into_err hne
    rw [e1, e2, e3, e4, h2]
    clear hne e1 e2 e3 e4 h2
    have hlens := chkL_lens h1
    rw [h1] at HCk
    have h3' : ¬ (12 : Int) < (M.length : Int) := by omega
    have HOr := hide (fun W o c (h : TapsAt W o (P ++ M)) (hn : o = none → c = 0) => order_any o c (P ++ M) W h (by simp; omega) hn)
    have hsum : lenS [(o2, P, c2), (om, M, cm)] ≤ 100 := by simp [lenS]; omega
    have HCc := hide (fun (W : World) (h : PiecesP W ⟨W.heap.size - 1, 0, none⟩ [(o2, P, c2), (om, M, cm)]) => concatP_any _ _ 2 W h (by simp) hsum)
    have hfl : ([(o2, P, c2), (om, M, cm)] : List (Option Addr × List TP × Nat)).flatMap (fun x => x.2.1) = P ++ M := by simp
    rw [hfl] at HCc
    have HTap := hide HLed.out.parts3.2.1.eqs
    have HTik := hide HLed.out.parts3.1.eqs
    have HLn := hide hlens
    clear hled hM hl hlM h1 h3 hsum hfl hlens
    have hS : ordR (P ++ M) = srt (P ++ M) := by simp [ordR, h4]
    rw [h4, hS] at HOr
    have hSl : (srt (P ++ M)).length ≤ 72 := by rw [srt_len]; exact (ordE_right h4).1
    have HEb := hide (fun (W : World) (B base : Nat) (h : Bld W B base (w.heap.size + 2) T [] [] []) (o : Option Addr) (cap : Nat) (hL : TapsAt W o (srt (P ++ M))) (hlt : ∀ A, o = some A → srt (P ++ M) ≠ [] → A.block < B) => eachB_any B base (w.heap.size + 2) T o cap (srt (P ++ M)) W h (by have := HLn.out; omega) hL hlt hSl)
    clear h4 hS hSl
    unfold intoB at *
    generalize bldA T (srt (P ++ M)) [] [] [] = R at *
    obtain ⟨E, P', V', D'⟩ := R
    dsimp only at *
    generalize srt (P ++ M) = S at *
    generalize P ++ M = Q at *
    go_enter Tryz.func69, Tryz.ntmps69
    go_wp2_with fail
    refine (HCk.out _ (HLed.out.below HG.out.2.2)).mono ?_
    rintro e w1 ⟨rfl, hb⟩
    have HG1 := hide (HG.out.on hb)
    clear hb HG
    obtain ⟨l0, l1, l2⟩ := HG1.out.c3 0 w.heap.size rfl rfl rfl rfl rfl
    have lr := HG1.out.lt 1 (w.heap.size + 1) (by simp) rfl
    obtain ⟨r0, r1, r2⟩ := HG1.out.c3 1 (w.heap.size + 1) rfl rfl rfl rfl rfl
    obtain ⟨f0, f1, f2⟩ := HG1.out.z3 1 (w.heap.size + 1) rfl rfl
    go_wp2_with fail
    have HGp := hide ((Blks.nil w1).more (.cells #[.slice o2 P.length c2, .slice om M.length cm] 23) (by simp))
    have HG1p := hide (HG1.out.on HGp.out.2.2)
    have hpc : PiecesP (w1.alloc (.cells #[.slice o2 P.length c2, .slice om M.length cm] 23)) ⟨(w1.alloc (.cells #[.slice o2 P.length c2, .slice om M.length cm] 23)).heap.size - 1, 0, none⟩ [(o2, P, c2), (om, M, cm)] := by
      have hb := HG1p.out.2.2
      intro q o L cap hq
      match q, hq with
      | 0, hq =>
        simp at hq
        obtain ⟨rfl, rfl, rfl⟩ := hq
        exact ⟨by simp [Addr.add, go_sem], HTap.out.2.1.below hb, HTap.out.2.2.2⟩
      | 1, hq =>
        simp at hq
        obtain ⟨rfl, rfl, rfl⟩ := hq
        exact ⟨by simp [Addr.add, go_sem], HM.out.below hb, hnM⟩
    have HPc := hide (HCc.out _ hpc)
    have hz1 : (w1.alloc (.cells #[.slice o2 P.length c2, .slice om M.length cm] 23)).heap.size - 1 = w1.heap.size := by simp
    rw [hz1] at HPc
    clear hpc hz1 l0 l1 l2 lr r0 r1 r2 f0 f1 f2
    refine HPc.out.mono ?_
    rintro e w2 ⟨⟨cv, rfl, hcv, -⟩, hb⟩
    obtain ⟨oc, cc, rfl, hcv, -, hnc⟩ := hcv
    have HG2 := hide (HG1p.out.on hb)
    have HCv := hide hcv
    clear hb hcv HPc HGp HG1p HG1
    go_wp2_with fail
    refine (HOr.out _ oc cc HCv.out hnc).mono ?_
    rintro e w3 ⟨⟨oo, no, co, rfl, hov, hof⟩, hb⟩
    have HG3 := hide (HG2.out.on hb)
    obtain ⟨rfl, hoa, -, -⟩ := hov.eqs
    have HOa := hide hoa
    have HOl := hide (taps_lt hoa)
    have hsz2 := HG2.out.2.1
    simp only [List.length_append, List.length_cons, List.length_nil] at hsz2
    clear hb hov hof hoa HG2 HCv hnc
    obtain ⟨l0, l1, l2⟩ := HG3.out.c3 0 w.heap.size rfl rfl rfl rfl rfl
    have lr := HG3.out.lt 1 (w.heap.size + 1) (by simp) rfl
    obtain ⟨r0, r1, r2⟩ := HG3.out.c3 1 (w.heap.size + 1) rfl rfl rfl rfl rfl
    obtain ⟨f0, f1, f2⟩ := HG3.out.z3 1 (w.heap.size + 1) rfl rfl
    have hsz3 := HG3.out.2.1
    simp only [List.length_append, List.length_cons, List.length_nil] at hsz3
    go_wp2_with fail
    refine (cloneK_any T o1 c1 _ (HTik.out.2.1.below HG3.out.2.2) (by have := HLn.out; omega)).mono ?_
    rintro e w4 ⟨⟨ct, rfl, hct, hcf⟩, hb⟩
    obtain ⟨ok, ck, rfl, hct1, hct2, hct3⟩ := hct
    have HK4 := hide (show TiksV w4 (.slice ok T.length ck) T from ⟨ok, ck, rfl, hct1, hct2, hct3⟩)
    have HKf := hide (hcf.monoB (C := w.heap.size + 2) (by omega))
    have HO4 := hide (HOa.out.below hb)
    have HOl4 := hide (fun A h1 h2 => Nat.lt_of_lt_of_le (HOl.out A h1 h2) hb.size)
    have HG4 := hide (HG3.out.on hb)
    clear hb hcf hct1 hct2 hct3 HOa HOl HG3 l0 l1 l2 lr r0 r1 r2 f0 f1 f2 hsz3 hsz2
    have lr := HG4.out.lt 1 (w.heap.size + 1) (by simp) rfl
    go_wp2_with fail
    have hal := (Below.refl w4.heap.size w4).alloc (Nat.le_refl _) (.cells #[.slice ok T.length ck, .slice none 0 0, .slice none 0 0, .slice none 0 0] 158)
    have hs5 : (w4.alloc (.cells #[.slice ok T.length ck, .slice none 0 0, .slice none 0 0, .slice none 0 0] 158)).heap.size = w4.heap.size + 1 := by simp
    have hB4 : Bld (w4.alloc (.cells #[.slice ok T.length ck, .slice none 0 0, .slice none 0 0, .slice none 0 0] 158)) w4.heap.size (w4.heap.size + 1) (w.heap.size + 2) T [] [] [] :=
      ⟨ok, ck, none, 0, none, 0, none, 0, heap_alloc_new _ _, LedV.of (HK4.out.below hal) (tapsV_nilO _) (intsV_nil _), World.ownsRow_nil _ _ _ _, by omega, by omega, fun g hg => by simp [Value.ownBlock] at hg, ⟨HKf.out, fresh_nilO _, fresh_nilO _⟩, by omega⟩
    have HP5 := hide (HEb.out _ _ _ hB4 oo co (HO4.out.below hal) HOl4.out)
    clear hB4
    refine HP5.out.mono ?_
    rintro e w5 ⟨⟨rfl, hbl⟩, hb⟩
    have HG5 := hide (HG4.out.on (hal.trans hb))
    have HBl := hide hbl
    have hz5 := hb.size
    rw [hs5] at hz5
    clear hb hbl hal hs5 HP5 HG4 HK4 HKf HO4 HOl4
    have lr5 := HG5.out.lt 1 (w.heap.size + 1) (by simp) rfl
    obtain ⟨r0, r1, r2⟩ := HG5.out.c3 1 (w.heap.size + 1) rfl rfl rfl rfl rfl
    obtain ⟨f0, f1, f2⟩ := HG5.out.z3 1 (w.heap.size + 1) rfl rfl
    go_wp2_with fail
    refine bodyPost_ret (v := .tuple #[lg none none none 0 0 0 0 0 0, .slice none 0 0, .int .i64 E]) (by simp [results, Tryz.results69, go_sem, *]) rfl ⟨⟨_, _, _, _, rfl, ledN_none _ _, tapsV_nilO _, fresh_nilO _⟩, ?_⟩
    repeat (first | with_reducible refine Below.setCell ?_ (by simp; try omega) _ | exact HG5.out.2.2)
  · have e1 : intoT T P V M = T := by simp [intoT, h2]
    have e2 : intoP T P V M = (intoB T P M).2.1 := by simp [intoP, h2]
    have e3 : intoV T P V M = (intoB T P M).2.2.1 := by simp [intoV, h2]
    have e4 : intoD T P V M = (intoB T P M).2.2.2 := by simp [intoD, h2]
    rw [e1, e2, e3, e4, h2]
    clear e1 e2 e3 e4 h2
    have hlens := chkL_lens h1
    rw [h1] at HCk
    have h3' : ¬ (12 : Int) < (M.length : Int) := by omega
    have HOr := hide (fun W o c (h : TapsAt W o (P ++ M)) (hn : o = none → c = 0) => order_any o c (P ++ M) W h (by simp; omega) hn)
    have hsum : lenS [(o2, P, c2), (om, M, cm)] ≤ 100 := by simp [lenS]; omega
    have HCc := hide (fun (W : World) (h : PiecesP W ⟨W.heap.size - 1, 0, none⟩ [(o2, P, c2), (om, M, cm)]) => concatP_any _ _ 2 W h (by simp) hsum)
    have hfl : ([(o2, P, c2), (om, M, cm)] : List (Option Addr × List TP × Nat)).flatMap (fun x => x.2.1) = P ++ M := by simp
    rw [hfl] at HCc
    have HTap := hide HLed.out.parts3.2.1.eqs
    have HTik := hide HLed.out.parts3.1.eqs
    have HLn := hide hlens
    clear hled hM hl hlM h1 h3 hsum hfl hlens
    have hS : ordR (P ++ M) = srt (P ++ M) := by simp [ordR, h4]
    rw [h4, hS] at HOr
    have hSl : (srt (P ++ M)).length ≤ 72 := by rw [srt_len]; exact (ordE_right h4).1
    have HEb := hide (fun (W : World) (B base : Nat) (h : Bld W B base (w.heap.size + 2) T [] [] []) (o : Option Addr) (cap : Nat) (hL : TapsAt W o (srt (P ++ M))) (hlt : ∀ A, o = some A → srt (P ++ M) ≠ [] → A.block < B) => eachB_any B base (w.heap.size + 2) T o cap (srt (P ++ M)) W h (by have := HLn.out; omega) hL hlt hSl)
    clear h4 hS hSl
    unfold intoB at *
    generalize bldA T (srt (P ++ M)) [] [] [] = R at *
    obtain ⟨E, P', V', D'⟩ := R
    dsimp only at *
    generalize srt (P ++ M) = S at *
    generalize P ++ M = Q at *
    subst h5
    go_enter Tryz.func69, Tryz.ntmps69
    go_wp2_with fail
    refine (HCk.out _ (HLed.out.below HG.out.2.2)).mono ?_
    rintro e w1 ⟨rfl, hb⟩
    have HG1 := hide (HG.out.on hb)
    clear hb HG
    obtain ⟨l0, l1, l2⟩ := HG1.out.c3 0 w.heap.size rfl rfl rfl rfl rfl
    have lr := HG1.out.lt 1 (w.heap.size + 1) (by simp) rfl
    obtain ⟨r0, r1, r2⟩ := HG1.out.c3 1 (w.heap.size + 1) rfl rfl rfl rfl rfl
    obtain ⟨f0, f1, f2⟩ := HG1.out.z3 1 (w.heap.size + 1) rfl rfl
    go_wp2_with fail
    have HGp := hide ((Blks.nil w1).more (.cells #[.slice o2 P.length c2, .slice om M.length cm] 23) (by simp))
    have HG1p := hide (HG1.out.on HGp.out.2.2)
    have hpc : PiecesP (w1.alloc (.cells #[.slice o2 P.length c2, .slice om M.length cm] 23)) ⟨(w1.alloc (.cells #[.slice o2 P.length c2, .slice om M.length cm] 23)).heap.size - 1, 0, none⟩ [(o2, P, c2), (om, M, cm)] := by
      have hb := HG1p.out.2.2
      intro q o L cap hq
      match q, hq with
      | 0, hq =>
        simp at hq
        obtain ⟨rfl, rfl, rfl⟩ := hq
        exact ⟨by simp [Addr.add, go_sem], HTap.out.2.1.below hb, HTap.out.2.2.2⟩
      | 1, hq =>
        simp at hq
        obtain ⟨rfl, rfl, rfl⟩ := hq
        exact ⟨by simp [Addr.add, go_sem], HM.out.below hb, hnM⟩
    have HPc := hide (HCc.out _ hpc)
    have hz1 : (w1.alloc (.cells #[.slice o2 P.length c2, .slice om M.length cm] 23)).heap.size - 1 = w1.heap.size := by simp
    rw [hz1] at HPc
    clear hpc hz1 l0 l1 l2 lr r0 r1 r2 f0 f1 f2
    refine HPc.out.mono ?_
    rintro e w2 ⟨⟨cv, rfl, hcv, -⟩, hb⟩
    obtain ⟨oc, cc, rfl, hcv, -, hnc⟩ := hcv
    have HG2 := hide (HG1p.out.on hb)
    have HCv := hide hcv
    clear hb hcv HPc HGp HG1p HG1
    go_wp2_with fail
    refine (HOr.out _ oc cc HCv.out hnc).mono ?_
    rintro e w3 ⟨⟨oo, no, co, rfl, hov, hof⟩, hb⟩
    have HG3 := hide (HG2.out.on hb)
    obtain ⟨rfl, hoa, -, -⟩ := hov.eqs
    have HOa := hide hoa
    have HOl := hide (taps_lt hoa)
    have hsz2 := HG2.out.2.1
    simp only [List.length_append, List.length_cons, List.length_nil] at hsz2
    clear hb hov hof hoa HG2 HCv hnc
    obtain ⟨l0, l1, l2⟩ := HG3.out.c3 0 w.heap.size rfl rfl rfl rfl rfl
    have lr := HG3.out.lt 1 (w.heap.size + 1) (by simp) rfl
    obtain ⟨r0, r1, r2⟩ := HG3.out.c3 1 (w.heap.size + 1) rfl rfl rfl rfl rfl
    obtain ⟨f0, f1, f2⟩ := HG3.out.z3 1 (w.heap.size + 1) rfl rfl
    have hsz3 := HG3.out.2.1
    simp only [List.length_append, List.length_cons, List.length_nil] at hsz3
    go_wp2_with fail
    refine (cloneK_any T o1 c1 _ (HTik.out.2.1.below HG3.out.2.2) (by have := HLn.out; omega)).mono ?_
    rintro e w4 ⟨⟨ct, rfl, hct, hcf⟩, hb⟩
    obtain ⟨ok, ck, rfl, hct1, hct2, hct3⟩ := hct
    have HK4 := hide (show TiksV w4 (.slice ok T.length ck) T from ⟨ok, ck, rfl, hct1, hct2, hct3⟩)
    have HKf := hide (hcf.monoB (C := w.heap.size + 2) (by omega))
    have HO4 := hide (HOa.out.below hb)
    have HOl4 := hide (fun A h1 h2 => Nat.lt_of_lt_of_le (HOl.out A h1 h2) hb.size)
    have HG4 := hide (HG3.out.on hb)
    clear hb hcf hct1 hct2 hct3 HOa HOl HG3 l0 l1 l2 lr r0 r1 r2 f0 f1 f2 hsz3 hsz2
    have lr := HG4.out.lt 1 (w.heap.size + 1) (by simp) rfl
    go_wp2_with fail
    have hal := (Below.refl w4.heap.size w4).alloc (Nat.le_refl _) (.cells #[.slice ok T.length ck, .slice none 0 0, .slice none 0 0, .slice none 0 0] 158)
    have hs5 : (w4.alloc (.cells #[.slice ok T.length ck, .slice none 0 0, .slice none 0 0, .slice none 0 0] 158)).heap.size = w4.heap.size + 1 := by simp
    have hB4 : Bld (w4.alloc (.cells #[.slice ok T.length ck, .slice none 0 0, .slice none 0 0, .slice none 0 0] 158)) w4.heap.size (w4.heap.size + 1) (w.heap.size + 2) T [] [] [] :=
      ⟨ok, ck, none, 0, none, 0, none, 0, heap_alloc_new _ _, LedV.of (HK4.out.below hal) (tapsV_nilO _) (intsV_nil _), World.ownsRow_nil _ _ _ _, by omega, by omega, fun g hg => by simp [Value.ownBlock] at hg, ⟨HKf.out, fresh_nilO _, fresh_nilO _⟩, by omega⟩
    have HP5 := hide (HEb.out _ _ _ hB4 oo co (HO4.out.below hal) HOl4.out)
    clear hB4
    refine HP5.out.mono ?_
    rintro e w5 ⟨⟨rfl, hbl⟩, hb⟩
    have HG5 := hide (HG4.out.on (hal.trans hb))
    have HBl := hide hbl
    have hz5 := hb.size
    rw [hs5] at hz5
    clear hb hbl hal hs5 HP5 HG4 HK4 HKf HO4 HOl4
    have lr5 := HG5.out.lt 1 (w.heap.size + 1) (by simp) rfl
    obtain ⟨r0, r1, r2⟩ := HG5.out.c3 1 (w.heap.size + 1) rfl rfl rfl rfl rfl
    obtain ⟨f0, f1, f2⟩ := HG5.out.z3 1 (w.heap.size + 1) rfl rfl
    obtain ⟨p1, q1, p2, q2, p3, q3, p4, q4, hrow, hled5, hown, -, -, -, ⟨fr1, fr2, fr3⟩, -⟩ := HBl.out
    have b0 := cell_of_row _ _ 0 _ _ _ hrow
    have b1 := cell_of_row _ _ 1 _ _ _ hrow
    have b2 := cell_of_row _ _ 2 _ _ _ hrow
    have b3 := cell_of_row _ _ 3 _ _ _ hrow
    have HLd := hide (hled5.parts3)
    have HTd := hide (tapsV_own hown)
    have HTf : Hid (Fresh (w.heap.size + 2) (.slice p4 D'.length q4)) := hide (fun g hg => Nat.le_trans (by omega) (ownsRow_block hown g hg).1)
    have HFr := hide (And.intro fr1 (And.intro fr2 fr3))
    clear hrow hled5 hown fr1 fr2 fr3
    have hne5 : ¬ w4.heap.size = w.heap.size + 1 := by omega
    have hne5' : ¬ w.heap.size + 1 = w4.heap.size := by omega
    go_wp2_with fail
    go_region
    all_goals go_wp2_with fail
    all_goals refine bodyPost_ret (v := .tuple #[lg p1 p2 p3 T.length q1 P'.length q2 V'.length q3, .slice p4 D'.length q4, .int .i64 0]) (by simp [results, Tryz.results69, go_sem, *]) rfl ⟨⟨_, _, _, _, rfl, ⟨_, _, _, rfl, ⟨?_, HFr.out.1.mono (by omega)⟩, ⟨?_, HFr.out.2.1.mono (by omega)⟩, ⟨?_, HFr.out.2.2.mono (by omega)⟩⟩, ?_, HTf.out.mono (by omega)⟩, ?_⟩
    · repeat (first | exact HLd.out.1 | with_reducible refine TiksV.below ?_ (Below.refl _ _).drew | with_reducible refine TiksV.set ?_ HFr.out.1 (by simp) _)
    · repeat (first | exact HLd.out.2.1 | with_reducible refine TapsV.below ?_ (Below.refl _ _).drew | with_reducible refine TapsV.set ?_ HFr.out.2.1 (by simp) _)
    · repeat (first | exact HLd.out.2.2 | with_reducible refine IntsV.below ?_ (Below.refl _ _).drew | with_reducible refine IntsV.set ?_ HFr.out.2.2 (by simp) _)
    · repeat (first | exact HTd.out | with_reducible refine TapsV.below ?_ (Below.refl _ _).drew | with_reducible refine TapsV.set ?_ HTf.out (by simp) _)
    · repeat (first | with_reducible refine Below.setCell ?_ (by simp; try omega) _ | with_reducible refine Below.drew ?_ | exact HG5.out.2.2)
end Go.Proofs.YtcjfmbeemdcklaaGreat

/-
  'sync' (package station).
-/
namespace Go.Proofs.YtcjfmbeemdcklaaGreat
open Go.RowKit
def GT2 (F : Nat) (w : World) (x : GT) (o : Option Addr) (c : Nat) (M : List TP) : Prop := Gn F w x ∧ TapsV w (.slice o M.length c) M ∧ Fresh F (.slice o M.length c)
theorem GT2.below {F : Nat} {w w' : World} {x : GT} {o : Option Addr} {c : Nat} {M : List TP} (h : GT2 F w x o c M) (hb : Below w.heap.size w w') : GT2 F w' x o c M := ⟨h.1.below hb, h.2.1.below hb, h.2.2⟩
theorem GT2.mono {F E : Nat} {w : World} {x : GT} {o : Option Addr} {c : Nat} {M : List TP} (h : GT2 F w x o c M) (hE : E ≤ F) : GT2 E w x o c M := ⟨h.1.mono hE, h.2.1, h.2.2.mono hE⟩
theorem GT2.setO {F : Nat} {w : World} {x : GT} {o : Option Addr} {c : Nat} {M : List TP} (h : GT2 F w x o c M) {p : Addr} (ho : GOff x p.block ∧ Off o M p.block) (u : Value) : GT2 F (w.setCell p u) x o c M := ⟨h.1.setO ho.1 u, h.2.1.setO ho.2 u, h.2.2⟩
theorem GT2.offlt {F : Nat} {w : World} {x : GT} {o : Option Addr} {c : Nat} {M : List TP} (h : GT2 F w x o c M) : GOff x w.heap.size ∧ Off o M w.heap.size := ⟨h.1.offlt, off_ltP h.2.1⟩
theorem GT2.offnew {F : Nat} {w : World} {x : GT} {o : Option Addr} {c : Nat} {M : List TP} (h : GT2 F w x o c M) {b : Nat} (hb : b < F) : GOff x b ∧ Off o M b := ⟨h.1.offnew hb, off_fresh h.2.2 hb⟩
theorem gateSync_one (g : GT) (v' : Int) (od' : Option Addr) (D' : List Int) (cd' : Nat) (m : Int) (w : World) (hP : TapsV w (.slice g.oa g.A.length g.ca) g.A) (hD : IntsV w (.slice g.od g.D.length g.cd) g.D) (hD' : IntsAt w od' D') (hlP : g.A.length ≤ 12) (hlD : g.D.length ≤ 9223372036854775807) (hlD' : D'.length ≤ 9223372036854775807) :
    Calls Tryz.prog 77 #[gtV g.i g.z g.s g.oa g.A.length g.ca g.v g.od g.D.length g.cd g.l g.u, dn v' od' D'.length cd', .int .i64 m] w fun e w' => (∃ (x : GT) (o : Option Addr) (c : Nat), e = .returned (.tuple #[gtV x.i x.z x.s x.oa x.A.length x.ca x.v x.od x.D.length x.cd x.l x.u, .slice o (if syncG g.i g.z g.s g.A g.v g.D g.l g.u v' D' m = 0 then g.A else []).length c, .int .i64 (syncG g.i g.z g.s g.A g.v g.D g.l g.u v' D' m)]) ∧
      GT2 w.heap.size w' x o c (if syncG g.i g.z g.s g.A g.v g.D g.l g.u v' D' m = 0 then g.A else []) ∧ (syncG g.i g.z g.s g.A g.v g.D g.l g.u v' D' m = 0 → x.p = ⟨g.i, g.z, g.s, [], if g.v < v' then v' else g.v, if g.v < v' then D' else g.D, 9, m + 100⟩)) ∧ Below w.heap.size w w' := by
  by_cases hE : syncG g.i g.z g.s g.A g.v g.D g.l g.u v' D' m = 0
  · refine (gateSync_ok g.i g.z g.s g.oa g.A g.ca g.v g.od g.D g.cd g.l g.u v' od' D' cd' m w hP.ats hD.ats hD' hlD hlD' hlP hE).mono ?_
    rintro e w' ⟨⟨on, cn, x, rfl, h1, h2, ⟨o, c, rfl, h3⟩, h4⟩, hb⟩
    rw [if_pos hE]
    exact ⟨⟨⟨g.i, g.z, g.s, none, [], 0, if g.v < v' then v' else g.v, on, if g.v < v' then D' else g.D, cn, 9, m + 100⟩, o, c, by rw [hE]; rfl, ⟨⟨⟨⟨none, 0, rfl, fun i p h => by simp at h, by simp, fun _ => rfl⟩, fun k hk => by simp [Value.ownBlock] at hk⟩, h1, h2⟩, ⟨o, c, rfl, h3⟩, h4⟩, fun _ => rfl⟩, hb⟩
  · refine (gateSync_err g.i g.z g.s g.oa g.A g.ca g.v g.od g.D g.cd g.l g.u v' od' D' cd' m w hP.ats hD.ats hD' hlD hlD' hE).mono ?_
    rintro e w' ⟨rfl, hb⟩
    rw [if_neg hE]
    exact ⟨⟨⟨0, 0, 0, none, [], 0, 0, none, [], 0, 0, 0⟩, none, 0, rfl, ⟨.zero _ _ _ _ _ _ _ _, ⟨none, 0, rfl, fun i p h => by simp at h, by simp, fun _ => rfl⟩, fun k hk => by simp [Value.ownBlock] at hk⟩, fun h => absurd h hE⟩, hb⟩
theorem TapsV.kq {S : Nat → Prop} {w w' : World} {o : Option Addr} {n c : Nat} {L : List TP} (h : TapsV w (.slice o n c) L) (hk : Kq S w w') (ho : ∀ b, S b → Off o L b) : TapsV w' (.slice o n c) L := by
  obtain ⟨rfl, h1, h2, h3⟩ := h.eqs
  exact ⟨o, c, rfl, h1.kq hk ho, h2, h3⟩
set_option maxHeartbeats 3200000 in
set_option maxRecDepth 100000 in
theorem keeperSync_range (K : Nat) (n m : Int) (w : World) (hn : wi n 0 2 = false) : Calls Tryz.prog 49 #[.pointer (some ⟨K, 0, none⟩), .int .i64 n, .int .i64 m] w fun e w' => e = .returned (.tuple #[.slice none 0 0, .int .i64 3]) ∧ w' = w := by
  go_enter Tryz.func49, Tryz.ntmps49
  go_wp2_with fail
  refine (isGate_any _ _).mono ?_
  rintro e w1 ⟨rfl, hw⟩
  obtain rfl := hw.symm
  rw [hn]
  go_wp2_with fail
  go_ret2
  exact ⟨rfl, rfl⟩
def syncK (T : List TK) (P : List TP) (V : List Int) (dv : Int) (D : List Int) (W : List VW) (g : GP) (m : Int) : Int :=
  if nowB W = true then (if syncG g.i g.z g.s g.A g.v g.D g.l g.u dv D m = 0 then intoE T P V g.A else syncG g.i g.z g.s g.A g.v g.D g.l g.u dv D m) else 4
theorem bldA_lens (T : List TK) : ∀ (L P : List TP) (V : List Int) (D : List TP), (bldA T L P V D).2.2.2.length ≤ D.length + L.length
  | [], P, V, D => by simp [bldA]
  | p :: L, P, V, D => by
    rw [bldA]
    by_cases h : bldE T P V p = 0
    · rw [if_pos h]
      have := bldA_lens T L (bldP T P V p) (bldV T P V p) (bldD T P V D p)
      have h2 : (bldD T P V D p).length ≤ D.length + 1 := by
        unfold bldD
        split
        · omega
        · split
          · simp
          · omega
      simp only [List.length_cons]
      omega
    · rw [if_neg h]
      simp only [List.length_cons]
      omega
theorem intoD_len (T : List TK) (P : List TP) (V : List Int) (M : List TP) (hM : M.length ≤ 12) (hP : P.length ≤ 60) : (intoD T P V M).length ≤ 9223372036854775807 := by
  unfold intoD
  split
  · have := bldA_lens T (srt (P ++ M)) [] [] []
    unfold intoB
    have h2 : (srt (P ++ M)).length = P.length + M.length := by simp [srt]
    simp only [List.length_nil] at this
    omega
  · simp
set_option maxHeartbeats 12800000 in
set_option maxRecDepth 100000 in
theorem keeperSync_any (K Q B : Nat) (a : KA) (T : List TK) (P : List TP) (V : List Int) (dv : Int) (D : List Int) (G : List GT) (W : List VW) (q : Nat) (g : GT) (m : Int) (w : World) (hK : Ks w K Q B a T P V dv D G W) (hq : G[q]? = some g) (hq3 : q < 3) (hl : LensOk T P V) (hl2 : P.length ≤ 60) (hlA : g.A.length ≤ 12) (hlgD : g.D.length ≤ 9223372036854775807) (hlD : D.length ≤ 12) (hlW : W.length ≤ 9223372036854775807) :
    Calls Tryz.prog 49 #[.pointer (some ⟨K, 0, none⟩), .int .i64 (q : Int), .int .i64 m] w fun e w' => (∃ E M o c, E = syncK T P V dv D W g.p m ∧ M = (if E = 0 then intoD T P V g.A else []) ∧ e = .returned (.tuple #[.slice o M.length c, .int .i64 E]) ∧ (TapsV w' (.slice o M.length c) M ∧ Fresh w.heap.size (.slice o M.length c)) ∧ (E ≠ 0 → Ks w' K Q B a T P V dv D G W) ∧
      (E = 0 → ∃ a' x, x.p = ⟨g.i, g.z, g.s, [], (denA M dv D).1, (denA M dv D).2, 9, m + 100⟩ ∧ Ks w' K Q B a' (intoT T P V g.A) (intoP T P V g.A) (intoV T P V g.A) (denA M dv D).1 (denA M dv D).2 (G.set q x) W)) ∧ Kq (KQ K Q) w w' := by
  have HK := hide hK
  have HK0 := hide hK
  have hKlt := hK.lt
  have hQlt := hK.qlt
  have hbk := hK.bk
  have hne := hK.ne
  have hql := (List.getElem?_eq_some_iff.1 hq).1
  have hi1 : (0 : Int) ≤ (q : Int) := by omega
  have hi2 : (q : Int) < (G.length : Int) := by omega
  have hgate : wi (q : Int) 0 2 = true := by simp [wi]; omega
  have hadd := own_addrZ Q (q * 8)
  have HN := hide (fun X (h : Ks X K Q B a T P V dv D G W) => led_any a.o1 a.o2 a.o3 T.length a.c1 P.length a.c2 V.length a.c3 dv a.od D.length a.cd (some ⟨Q, 0, none⟩) G.length a.cg a.ov a.cv W X h.kl.vws.1.ats hlW)
  have HSy := hide (fun X (h : Ks X K Q B a T P V dv D G W) => gateSync_one g dv a.od D a.cd m X (h.kl.gts g (List.mem_of_getElem? hq)).1.1 (h.kl.gts g (List.mem_of_getElem? hq)).2.1 h.kl.den.1.ats hlA hlgD (by omega))
  have HIn := hide (fun X (h : Ks X K Q B a T P V dv D G W) (ot : Option Addr) (ct : Nat) (h' : TapsV X (.slice ot g.A.length ct) g.A) => into_any T P V g.A a.o1 a.o2 a.o3 ot a.c1 a.c2 a.c3 ct X h.led hl h'.ats (by omega) h'.eqs.2.2.2)
  have Hq := hide hq
  clear hK hq
  have k0 := HK.out.c0
  have k1 := HK.out.c1
  have k2 := HK.out.c2
  have k3 := HK.out.c3
  have k4 := HK.out.c4
  have k5 := HK.out.c5
  have k6 := HK.out.c6
  unfold syncK
  have hgp : g.p = ⟨g.i, g.z, g.s, g.A, g.v, g.D, g.l, g.u⟩ := rfl
  rw [hgp]
  simp only []
  clear hgp
  generalize nowB W = nw at *
  cases nw
  · rw [if_neg (show ¬ false = true by decide)]
    go_enter Tryz.func49, Tryz.ntmps49
    go_wp2_with fail
    refine (isGate_any _ _).mono ?_
    rintro e w1 ⟨rfl, hw⟩
    obtain rfl := hw.symm
    rw [hgate]
    go_wp2_with fail
    refine (HN.out _ HK.out).mono ?_
    rintro e w1 ⟨rfl, hb⟩
    have HK1 := hide (HK.out.below hb)
    have HA1 := hide hb
    clear hb HK HN k0 k1 k2 k3 k4 k5 k6
    go_wp2_with fail
    go_ret2
    exact ⟨⟨4, [], none, 0, rfl, rfl, rfl, ⟨⟨none, 0, rfl, fun i p h => by simp at h, by simp, fun _ => rfl⟩, fun k hk => by simp [Value.ownBlock] at hk⟩, fun _ => HK1.out, fun h => absurd h (by decide)⟩, .ofBelow HA1.out⟩
  · rw [if_pos rfl]
    obtain ⟨GX, hGX⟩ : ∃ GX : GP, GX = ⟨g.i, g.z, g.s, [], if g.v < dv then dv else g.v, if g.v < dv then D else g.D, 9, m + 100⟩ := ⟨_, rfl⟩
    rw [← hGX] at HSy
    have HGX := hide hGX
    clear hGX
    generalize syncG g.i g.z g.s g.A g.v g.D g.l g.u dv D m = E1 at *
    obtain ⟨ML, hML⟩ : ∃ ML, ML = if E1 = 0 then g.A else [] := ⟨_, rfl⟩
    rw [← hML] at HSy
    have HML := hide hML
    clear hML
    generalize intoE T P V g.A = E2 at *
    generalize intoT T P V g.A = IT at *
    generalize intoP T P V g.A = IP at *
    generalize intoV T P V g.A = IV at *
    have hil : (intoD T P V g.A).length ≤ 9223372036854775807 := intoD_len T P V g.A hlA hl2
    generalize intoD T P V g.A = ID at *
    have HIl := hide hil
    clear hil
    obtain ⟨RE, hRE⟩ : ∃ RE, RE = if E1 = 0 then E2 else E1 := ⟨_, rfl⟩
    rw [← hRE]
    have HRE := hide hRE
    clear hRE
    go_enter Tryz.func49, Tryz.ntmps49
    go_wp2_with fail
    refine (isGate_any _ _).mono ?_
    rintro e w1 ⟨rfl, hw⟩
    obtain rfl := hw.symm
    rw [hgate]
    go_wp2_with fail
    refine (HN.out _ HK.out).mono ?_
    rintro e w1 ⟨rfl, hb⟩
    have HK1 := hide (HK.out.below hb)
    have HA1 := hide hb
    clear hb HK HN k0 k1 k2 k3 k4 k5 k6
    go_upto_region 5 with fail
    go_cut [8, 9, 10] from 21 to 40 (fun s8 s9 s10 wx => ∃ (b : Nat) (x : GT) (ot : Option Addr) (ct : Nat), s8 = .pointer (some ⟨b, 0, none⟩) ∧ s9 = .slice ot ML.length ct ∧ s10 = .int .i64 E1 ∧ Hid (w1.heap.size ≤ b ∧ wx.heap[b]? = some (.cells #[.int .i64 x.i, .int .i64 x.z, .int .i64 x.s, .slice x.oa x.A.length x.ca, .int .i64 x.v, .slice x.od x.D.length x.cd, .int .i64 x.l, .int .i64 x.u] 49)) ∧ Hid (GT2 w1.heap.size wx x ot ct ML) ∧ Hid (E1 = 0 → x.p = GX) ∧ Hid (Below w1.heap.size w1 wx))
    case first =>
      refine wp_region_reads (fun w' => Ks w' K Q B a T P V dv D G W) [0, 1, 2, 3, 4, 5, 6, 7, 8, 9, 10, 11, 12, 13] 9 (by rfl) (by kernel_rfl) (by kernel_rfl) (by kernel_rfl) (fun c d v a w h => by cases d <;> exact h) ?_ ?_
      · exact HK1.out.below (Below.refl _ _).drew
      refine wpPureH_step (.pointer (some ⟨K, 0, none⟩)) rfl rfl (fun w' hS => ?_) ?_
      · go_simp
      refine wpPureH_step (.pointer (some ⟨K, 0, none⟩)) rfl rfl (fun w' hS => ?_) ?_
      · go_simp
      refine wpPureH_step (.pointer (some ⟨K, 0, none⟩)) rfl rfl (fun w' hS => ?_) ?_
      · go_simp
      refine wpPureH_step (.pointer (some ⟨K, 5, none⟩)) rfl rfl (fun w' hS => ?_) ?_
      · go_simp
      refine wpPureH_step (.slice (some ⟨Q, 0, none⟩) G.length a.cg) rfl rfl (fun w' hS => ?_) ?_
      · have k5 := hS.c5
        go_simp
      refine wpPureH_step (.int .i64 (q : Int)) rfl rfl (fun w' hS => ?_) ?_
      · go_simp
      refine wpPureH_step (.pointer (some ⟨Q, q * 8, none⟩)) rfl rfl (fun w' hS => ?_) ?_
      · go_simp
      refine wpPureH_step (gtV g.i g.z g.s g.oa g.A.length g.ca g.v g.od g.D.length g.cd g.l g.u) rfl rfl (fun w' hS => ?_) ?_
      · have g0 := hS.g0 Hq.out
        have g1 := hS.g1 Hq.out
        have g2 := hS.g2 Hq.out
        have g3 := hS.g3 Hq.out
        have g4 := hS.g4 Hq.out
        have g5 := hS.g5 Hq.out
        have g6 := hS.g6 Hq.out
        have g7 := hS.g7 Hq.out
        go_simp
      refine wpPureH_step (.pointer (some ⟨K, 0, none⟩)) rfl rfl (fun w' hS => ?_) ?_
      · go_simp
      refine wpPureH_step (.pointer (some ⟨K, 0, none⟩)) rfl rfl (fun w' hS => ?_) ?_
      · go_simp
      refine wpPureH_step (.pointer (some ⟨K, 0, none⟩)) rfl rfl (fun w' hS => ?_) ?_
      · go_simp
      refine wpPureH_step (.pointer (some ⟨K, 3, none⟩)) rfl rfl (fun w' hS => ?_) ?_
      · go_simp
      refine wpPureH_step (dn dv a.od D.length a.cd) rfl rfl (fun w' hS => ?_) ?_
      · have k3 := hS.c3
        have k4 := hS.c4
        go_simp
      refine wpPureH_step (.int .i64 m) rfl rfl (fun w' hS => ?_) ?_
      · go_simp
      refine wpPureH_nil ?_
      have HKd := hide (HK1.out.below (Below.refl _ _).drew)
      have HAd := hide ((Below.refl w1.heap.size w1).drew)
      have hsd : w1.heap.size ≤ w1.drew.heap.size := Nat.le_refl _
      clear HK1
      generalize (World.drew _) = w0 at *
      refine two_readyH (i := 14) (j := 19) (by kernel_rfl) rfl rfl rfl rfl (fun J hJ => ?_) (fun J hJ => ?_)
      · go_simp
        refine (HSy.out w0 HKd.out).mono ?_
        rintro e v1 ⟨⟨x, ot, ct, rfl, hN, hX⟩, hb⟩
        have HN := hide hN
        have HX := hide hX
        clear hN hX
        have HB1 := hide (hb)
        have u1 : w0.heap.size ≤ v1.heap.size := HB1.out.size
        refine hJ _ _ (HKd.out.below HB1.out) ?_
        clear hJ J hb  
        refine takesH (fuel := 4) (by kernel_rfl) (fun c d v a w h => by cases d <;> exact h) (HKd.out.below HB1.out) [15, 16, 17, 18] _ _ (by kernel_rfl) ?_
        refine wpPureH_step (.tuple #[gtV x.i x.z x.s x.oa x.A.length x.ca x.v x.od x.D.length x.cd x.l x.u, .slice ot ML.length ct, .int .i64 E1]) rfl rfl (fun w' _ => by go_simp) ?_
        refine wpPureH_step (gtV x.i x.z x.s x.oa x.A.length x.ca x.v x.od x.D.length x.cd x.l x.u) rfl rfl (fun w' _ => by go_simp) ?_
        refine wpPureH_step (.slice ot ML.length ct) rfl rfl (fun w' _ => by go_simp) ?_
        refine wpPureH_step (.int .i64 E1) rfl rfl (fun w' _ => by go_simp) ?_
        refine wpPureH_nil ?_
        refine one_readyH (i := 19) (by kernel_rfl) rfl rfl (fun J hJ => ?_)
        go_simp
        have hba := (Below.refl v1.heap.size v1).alloc (Nat.le_refl _) (.cells #[.int .i64 0, .int .i64 0, .int .i64 0, .slice none 0 0, .int .i64 0, .slice none 0 0, .int .i64 0, .int .i64 0] 49)
        have HB2 := hide (HB1.out.trans (hba.mono HB1.out.size))
        have Z2_19 : Hid ((v1.alloc (.cells #[.int .i64 0, .int .i64 0, .int .i64 0, .slice none 0 0, .int .i64 0, .slice none 0 0, .int .i64 0, .int .i64 0] 49)).heap[v1.heap.size]? = some (.cells #[.int .i64 0, .int .i64 0, .int .i64 0, .slice none 0 0, .int .i64 0, .slice none 0 0, .int .i64 0, .int .i64 0] 49)) := hide (heap_alloc_new v1 _)
        have q2 : v1.heap.size < (v1.alloc (.cells #[.int .i64 0, .int .i64 0, .int .i64 0, .slice none 0 0, .int .i64 0, .slice none 0 0, .int .i64 0, .int .i64 0] 49)).heap.size := by simp
        have O2_19 := hide (HN.out.offlt)
        have N2 := hide (HN.out.below hba)
        refine hJ _ _ (HKd.out.below HB2.out) ?_
        clear hJ J hba HB1  HN
        generalize v1.alloc (.cells #[.int .i64 0, .int .i64 0, .int .i64 0, .slice none 0 0, .int .i64 0, .slice none 0 0, .int .i64 0, .int .i64 0] 49) = v2 at *
        have hZ := Z2_19.out
        have r0 := cell_of_row _ _ 0 _ _ _ hZ
        have s0 := frozen_of_row _ _ 0 _ _ hZ
        have r1 := cell_of_row _ _ 1 _ _ _ hZ
        have s1 := frozen_of_row _ _ 1 _ _ hZ
        have r2 := cell_of_row _ _ 2 _ _ _ hZ
        have s2 := frozen_of_row _ _ 2 _ _ hZ
        have r3 := cell_of_row _ _ 3 _ _ _ hZ
        have s3 := frozen_of_row _ _ 3 _ _ hZ
        have r4 := cell_of_row _ _ 4 _ _ _ hZ
        have s4 := frozen_of_row _ _ 4 _ _ hZ
        have r5 := cell_of_row _ _ 5 _ _ _ hZ
        have s5 := frozen_of_row _ _ 5 _ _ hZ
        have r6 := cell_of_row _ _ 6 _ _ _ hZ
        have s6 := frozen_of_row _ _ 6 _ _ hZ
        have r7 := cell_of_row _ _ 7 _ _ _ hZ
        have s7 := frozen_of_row _ _ 7 _ _ hZ
        simp at r0 r1 r2 r3 r4 r5 r6 r7
        have Y3_19 : Hid (((((((((v2.setCell ⟨v1.heap.size, 0, none⟩ (.int .i64 x.i)).setCell ⟨v1.heap.size, 1, none⟩ (.int .i64 x.z)).setCell ⟨v1.heap.size, 2, none⟩ (.int .i64 x.s)).setCell ⟨v1.heap.size, 3, none⟩ (.slice x.oa x.A.length x.ca)).setCell ⟨v1.heap.size, 4, none⟩ (.int .i64 x.v)).setCell ⟨v1.heap.size, 5, none⟩ (.slice x.od x.D.length x.cd)).setCell ⟨v1.heap.size, 6, none⟩ (.int .i64 x.l)).setCell ⟨v1.heap.size, 7, none⟩ (.int .i64 x.u)).heap[v1.heap.size]? = some (.cells #[.int .i64 x.i, .int .i64 x.z, .int .i64 x.s, .slice x.oa x.A.length x.ca, .int .i64 x.v, .slice x.od x.D.length x.cd, .int .i64 x.l, .int .i64 x.u] 49)) := hide (heap_setCell_same _ (v1.heap.size) 7 _ _ (.int .i64 x.u) (heap_setCell_same _ (v1.heap.size) 6 _ _ (.int .i64 x.l) (heap_setCell_same _ (v1.heap.size) 5 _ _ (.slice x.od x.D.length x.cd) (heap_setCell_same _ (v1.heap.size) 4 _ _ (.int .i64 x.v) (heap_setCell_same _ (v1.heap.size) 3 _ _ (.slice x.oa x.A.length x.ca) (heap_setCell_same _ (v1.heap.size) 2 _ _ (.int .i64 x.s) (heap_setCell_same _ (v1.heap.size) 1 _ _ (.int .i64 x.z) (heap_setCell_same _ (v1.heap.size) 0 _ _ (.int .i64 x.i) hZ))))))))
        have HB3 := hide ((((((((HB2.out.setCell (p := ⟨v1.heap.size, 0, none⟩) (by simp; try omega) (.int .i64 x.i)).setCell (p := ⟨v1.heap.size, 1, none⟩) (by simp; try omega) (.int .i64 x.z)).setCell (p := ⟨v1.heap.size, 2, none⟩) (by simp; try omega) (.int .i64 x.s)).setCell (p := ⟨v1.heap.size, 3, none⟩) (by simp; try omega) (.slice x.oa x.A.length x.ca)).setCell (p := ⟨v1.heap.size, 4, none⟩) (by simp; try omega) (.int .i64 x.v)).setCell (p := ⟨v1.heap.size, 5, none⟩) (by simp; try omega) (.slice x.od x.D.length x.cd)).setCell (p := ⟨v1.heap.size, 6, none⟩) (by simp; try omega) (.int .i64 x.l)).setCell (p := ⟨v1.heap.size, 7, none⟩) (by simp; try omega) (.int .i64 x.u))
        have N3 := hide ((((((((N2.out.setO (p := ⟨v1.heap.size, 0, none⟩) O2_19.out (.int .i64 x.i)).setO (p := ⟨v1.heap.size, 1, none⟩) O2_19.out (.int .i64 x.z)).setO (p := ⟨v1.heap.size, 2, none⟩) O2_19.out (.int .i64 x.s)).setO (p := ⟨v1.heap.size, 3, none⟩) O2_19.out (.slice x.oa x.A.length x.ca)).setO (p := ⟨v1.heap.size, 4, none⟩) O2_19.out (.int .i64 x.v)).setO (p := ⟨v1.heap.size, 5, none⟩) O2_19.out (.slice x.od x.D.length x.cd)).setO (p := ⟨v1.heap.size, 6, none⟩) O2_19.out (.int .i64 x.l)).setO (p := ⟨v1.heap.size, 7, none⟩) O2_19.out (.int .i64 x.u))
        refine one_readyH (i := 20) (by kernel_rfl) rfl rfl (fun J hJ => ?_)
        go_simp
        refine hJ _ _ (HKd.out.below HB3.out) ?_
        clear hJ J hZ r0 s0 r1 s1 r2 s2 r3 s3 r4 s4 r5 s5 r6 s6 r7 s7 HB2 N2 Z2_19
        generalize ((((((((v2.setCell ⟨v1.heap.size, 0, none⟩ (.int .i64 x.i)).setCell ⟨v1.heap.size, 1, none⟩ (.int .i64 x.z)).setCell ⟨v1.heap.size, 2, none⟩ (.int .i64 x.s)).setCell ⟨v1.heap.size, 3, none⟩ (.slice x.oa x.A.length x.ca)).setCell ⟨v1.heap.size, 4, none⟩ (.int .i64 x.v)).setCell ⟨v1.heap.size, 5, none⟩ (.slice x.od x.D.length x.cd)).setCell ⟨v1.heap.size, 6, none⟩ (.int .i64 x.l)).setCell ⟨v1.heap.size, 7, none⟩ (.int .i64 x.u)) = z3 at *
        refine one_readyH (i := 21) (by kernel_rfl) rfl rfl (fun J hJ => ?_)
        go_simp
        refine hJ _ _ (HKd.out.below HB3.out) ?_
        clear hJ J
        refine one_readyH (i := 22) (by kernel_rfl) rfl rfl (fun J hJ => ?_)
        go_simp
        refine hJ _ _ (HKd.out.below HB3.out) ?_
        clear hJ J
        refine wpAnyH_done (by kernel_rfl) ?_ _
        go_wp2_with fail
        go_meet
        case rel => exact ⟨v1.heap.size, x, ot, ct, rfl, rfl, rfl, hide ⟨by omega, Y3_19.out⟩, hide (N3.out.mono (by omega)), HX, hide (HAd.out.trans (HB3.out.mono (by omega)))⟩
      · go_simp
        have hba := (Below.refl w0.heap.size w0).alloc (Nat.le_refl _) (.cells #[.int .i64 0, .int .i64 0, .int .i64 0, .slice none 0 0, .int .i64 0, .slice none 0 0, .int .i64 0, .int .i64 0] 49)
        have HB4 := hide (hba)
        have Z4_19 : Hid ((w0.alloc (.cells #[.int .i64 0, .int .i64 0, .int .i64 0, .slice none 0 0, .int .i64 0, .slice none 0 0, .int .i64 0, .int .i64 0] 49)).heap[w0.heap.size]? = some (.cells #[.int .i64 0, .int .i64 0, .int .i64 0, .slice none 0 0, .int .i64 0, .slice none 0 0, .int .i64 0, .int .i64 0] 49)) := hide (heap_alloc_new w0 _)
        have q4 : w0.heap.size < (w0.alloc (.cells #[.int .i64 0, .int .i64 0, .int .i64 0, .slice none 0 0, .int .i64 0, .slice none 0 0, .int .i64 0, .int .i64 0] 49)).heap.size := by simp
        refine hJ _ _ (HKd.out.below HB4.out) ?_
        clear hJ J hba   
        generalize w0.alloc (.cells #[.int .i64 0, .int .i64 0, .int .i64 0, .slice none 0 0, .int .i64 0, .slice none 0 0, .int .i64 0, .int .i64 0] 49) = v4 at *
        refine one_readyH (i := 14) (by kernel_rfl) rfl rfl (fun J hJ => ?_)
        go_simp
        refine (HSy.out _ (HKd.out.below HB4.out)).mono ?_
        rintro e v5 ⟨⟨x, ot, ct, rfl, hN, hX⟩, hb⟩
        have HN := hide hN
        have HX := hide hX
        clear hN hX
        have HB5 := hide (HB4.out.trans (hb.mono HB4.out.size))
        have Z5_19 := hide (at_below Z4_19.out hb)
        have O5_19 := hide (HN.out.offnew (show w0.heap.size < v4.heap.size by omega))
        have q5_19 : w0.heap.size < v5.heap.size := Nat.lt_of_lt_of_le (by omega) hb.size
        have u5 : w0.heap.size ≤ v5.heap.size := HB5.out.size
        refine hJ _ _ (HKd.out.below HB5.out) ?_
        clear hJ J hb HB4 Z4_19
        refine takesH (fuel := 3) (by kernel_rfl) (fun c d v a w h => by cases d <;> exact h) (HKd.out.below HB5.out) [15, 16, 17, 18] _ _ (by kernel_rfl) ?_
        refine wpPureH_step (.tuple #[gtV x.i x.z x.s x.oa x.A.length x.ca x.v x.od x.D.length x.cd x.l x.u, .slice ot ML.length ct, .int .i64 E1]) rfl rfl (fun w' _ => by go_simp) ?_
        refine wpPureH_step (gtV x.i x.z x.s x.oa x.A.length x.ca x.v x.od x.D.length x.cd x.l x.u) rfl rfl (fun w' _ => by go_simp) ?_
        refine wpPureH_step (.slice ot ML.length ct) rfl rfl (fun w' _ => by go_simp) ?_
        refine wpPureH_step (.int .i64 E1) rfl rfl (fun w' _ => by go_simp) ?_
        refine wpPureH_nil ?_
        have hZ := Z5_19.out
        have r0 := cell_of_row _ _ 0 _ _ _ hZ
        have s0 := frozen_of_row _ _ 0 _ _ hZ
        have r1 := cell_of_row _ _ 1 _ _ _ hZ
        have s1 := frozen_of_row _ _ 1 _ _ hZ
        have r2 := cell_of_row _ _ 2 _ _ _ hZ
        have s2 := frozen_of_row _ _ 2 _ _ hZ
        have r3 := cell_of_row _ _ 3 _ _ _ hZ
        have s3 := frozen_of_row _ _ 3 _ _ hZ
        have r4 := cell_of_row _ _ 4 _ _ _ hZ
        have s4 := frozen_of_row _ _ 4 _ _ hZ
        have r5 := cell_of_row _ _ 5 _ _ _ hZ
        have s5 := frozen_of_row _ _ 5 _ _ hZ
        have r6 := cell_of_row _ _ 6 _ _ _ hZ
        have s6 := frozen_of_row _ _ 6 _ _ hZ
        have r7 := cell_of_row _ _ 7 _ _ _ hZ
        have s7 := frozen_of_row _ _ 7 _ _ hZ
        simp at r0 r1 r2 r3 r4 r5 r6 r7
        have Y6_19 : Hid (((((((((v5.setCell ⟨w0.heap.size, 0, none⟩ (.int .i64 x.i)).setCell ⟨w0.heap.size, 1, none⟩ (.int .i64 x.z)).setCell ⟨w0.heap.size, 2, none⟩ (.int .i64 x.s)).setCell ⟨w0.heap.size, 3, none⟩ (.slice x.oa x.A.length x.ca)).setCell ⟨w0.heap.size, 4, none⟩ (.int .i64 x.v)).setCell ⟨w0.heap.size, 5, none⟩ (.slice x.od x.D.length x.cd)).setCell ⟨w0.heap.size, 6, none⟩ (.int .i64 x.l)).setCell ⟨w0.heap.size, 7, none⟩ (.int .i64 x.u)).heap[w0.heap.size]? = some (.cells #[.int .i64 x.i, .int .i64 x.z, .int .i64 x.s, .slice x.oa x.A.length x.ca, .int .i64 x.v, .slice x.od x.D.length x.cd, .int .i64 x.l, .int .i64 x.u] 49)) := hide (heap_setCell_same _ (w0.heap.size) 7 _ _ (.int .i64 x.u) (heap_setCell_same _ (w0.heap.size) 6 _ _ (.int .i64 x.l) (heap_setCell_same _ (w0.heap.size) 5 _ _ (.slice x.od x.D.length x.cd) (heap_setCell_same _ (w0.heap.size) 4 _ _ (.int .i64 x.v) (heap_setCell_same _ (w0.heap.size) 3 _ _ (.slice x.oa x.A.length x.ca) (heap_setCell_same _ (w0.heap.size) 2 _ _ (.int .i64 x.s) (heap_setCell_same _ (w0.heap.size) 1 _ _ (.int .i64 x.z) (heap_setCell_same _ (w0.heap.size) 0 _ _ (.int .i64 x.i) hZ))))))))
        have HB6 := hide ((((((((HB5.out.setCell (p := ⟨w0.heap.size, 0, none⟩) (by simp; try omega) (.int .i64 x.i)).setCell (p := ⟨w0.heap.size, 1, none⟩) (by simp; try omega) (.int .i64 x.z)).setCell (p := ⟨w0.heap.size, 2, none⟩) (by simp; try omega) (.int .i64 x.s)).setCell (p := ⟨w0.heap.size, 3, none⟩) (by simp; try omega) (.slice x.oa x.A.length x.ca)).setCell (p := ⟨w0.heap.size, 4, none⟩) (by simp; try omega) (.int .i64 x.v)).setCell (p := ⟨w0.heap.size, 5, none⟩) (by simp; try omega) (.slice x.od x.D.length x.cd)).setCell (p := ⟨w0.heap.size, 6, none⟩) (by simp; try omega) (.int .i64 x.l)).setCell (p := ⟨w0.heap.size, 7, none⟩) (by simp; try omega) (.int .i64 x.u))
        have N6 := hide ((((((((HN.out.setO (p := ⟨w0.heap.size, 0, none⟩) O5_19.out (.int .i64 x.i)).setO (p := ⟨w0.heap.size, 1, none⟩) O5_19.out (.int .i64 x.z)).setO (p := ⟨w0.heap.size, 2, none⟩) O5_19.out (.int .i64 x.s)).setO (p := ⟨w0.heap.size, 3, none⟩) O5_19.out (.slice x.oa x.A.length x.ca)).setO (p := ⟨w0.heap.size, 4, none⟩) O5_19.out (.int .i64 x.v)).setO (p := ⟨w0.heap.size, 5, none⟩) O5_19.out (.slice x.od x.D.length x.cd)).setO (p := ⟨w0.heap.size, 6, none⟩) O5_19.out (.int .i64 x.l)).setO (p := ⟨w0.heap.size, 7, none⟩) O5_19.out (.int .i64 x.u))
        refine one_readyH (i := 20) (by kernel_rfl) rfl rfl (fun J hJ => ?_)
        go_simp
        refine hJ _ _ (HKd.out.below HB6.out) ?_
        clear hJ J hZ r0 s0 r1 s1 r2 s2 r3 s3 r4 s4 r5 s5 r6 s6 r7 s7 HB5 HN Z5_19
        generalize ((((((((v5.setCell ⟨w0.heap.size, 0, none⟩ (.int .i64 x.i)).setCell ⟨w0.heap.size, 1, none⟩ (.int .i64 x.z)).setCell ⟨w0.heap.size, 2, none⟩ (.int .i64 x.s)).setCell ⟨w0.heap.size, 3, none⟩ (.slice x.oa x.A.length x.ca)).setCell ⟨w0.heap.size, 4, none⟩ (.int .i64 x.v)).setCell ⟨w0.heap.size, 5, none⟩ (.slice x.od x.D.length x.cd)).setCell ⟨w0.heap.size, 6, none⟩ (.int .i64 x.l)).setCell ⟨w0.heap.size, 7, none⟩ (.int .i64 x.u)) = z6 at *
        refine one_readyH (i := 21) (by kernel_rfl) rfl rfl (fun J hJ => ?_)
        go_simp
        refine hJ _ _ (HKd.out.below HB6.out) ?_
        clear hJ J
        refine one_readyH (i := 22) (by kernel_rfl) rfl rfl (fun J hJ => ?_)
        go_simp
        refine hJ _ _ (HKd.out.below HB6.out) ?_
        clear hJ J
        refine wpAnyH_done (by kernel_rfl) ?_ _
        go_wp2_with fail
        go_meet
        case rel => exact ⟨w0.heap.size, x, ot, ct, rfl, rfl, rfl, hide ⟨by omega, Y6_19.out⟩, hide (N6.out.mono (by omega)), HX, hide (HAd.out.trans (HB6.out.mono (by omega)))⟩
    case rest =>
      obtain ⟨b, x, ot, ct, rfl, rfl, rfl, HZ, HT, HX, HB⟩ := hcut
      have HK2 := hide (HK1.out.below HB.out)
      have HA2 := hide (HA1.out.trans (HB.out.mono HA1.out.size))
      have hs1 := HA1.out.size
      clear HK1 HA1 HSy
      rcases hE : (E1 != 0) with _ | _
      · obtain rfl : E1 = 0 := by simpa using hE
        have hml := HML.out
        rw [if_pos rfl] at hml
        subst hml
        have hre := HRE.out
        rw [if_pos rfl] at hre
        have HRE2 := hide hre
        have HX0 := hide (HX.out rfl)
        clear HML HRE hre HX
        have k0 := HK2.out.c0
        have k1 := HK2.out.c1
        have k2 := HK2.out.c2
        go_wp2_with fail
        refine (HIn.out _ HK2.out ot ct HT.out.2.1).mono ?_
        rintro e w2 ⟨⟨lv, od, nd, cd, rfl, hN, hM, hMf⟩, hb⟩
        obtain ⟨x1, y1, x2, y2, x3, y3, rfl, hN6⟩ := hN.led6
        obtain ⟨od', cd', hM1, hM2⟩ := hM
        simp only [Value.slice.injEq] at hM1
        obtain ⟨rfl, rfl, rfl⟩ := hM1
        have HL := hide hN6
        have HM := hide (And.intro (show TapsV w2 (.slice od ID.length cd) ID from ⟨_, _, rfl, hM2⟩) hMf)
        have HK3 := hide (HK2.out.below hb)
        have HA3 := hide (HA2.out.trans (hb.mono HA2.out.size))
        have HT3 := hide (HT.out.1.below hb)
        have HZ3 := hide (at_below HZ.out.2 hb)
        have hbb : w1.heap.size ≤ b := HZ.out.1
        have hbc : b < wc.heap.size := (Array.getElem?_eq_some_iff.1 HZ.out.2).1
        have hs2 : wc.heap.size ≤ w2.heap.size := hb.size
        clear hb hN hN6 hM2 hMf HK2 HA2 HT HZ HB k0 k1 k2 HIn
        rcases hE2 : (E2 != 0) with _ | _
        · obtain rfl : E2 = 0 := by simpa using hE2
          have HB0 := hide ((Below.refl w2.heap.size w2).alloc (Nat.le_refl _) (.cells #[.slice x1 IT.length y1, .slice x2 IP.length y2, .slice x3 IV.length y3] 26))
          have k0 := HK3.out.c0
          have k1 := HK3.out.c1
          have k2 := HK3.out.c2
          have z0 := HK3.out.fz 0
          have z1 := HK3.out.fz 1
          have z2 := HK3.out.fz 2
          go_upto_region 11 with fail
          have HZl := hide (heap_alloc_new w2 (.cells #[.slice x1 IT.length y1, .slice x2 IP.length y2, .slice x3 IV.length y3] 26))
          have HK4 := hide (HK3.out.below HB0.out)
          have HL4 := hide (HL.out.below HB0.out)
          have HM4 := hide (And.intro (HM.out.1.below HB0.out) HM.out.2)
          have HT4 := hide (HT3.out.below HB0.out)
          have HZ4 := hide (at_below HZ3.out HB0.out)
          have HA4 := hide (HA3.out.trans (HB0.out.mono HA3.out.size))
          have hs3 : w2.heap.size < (w2.alloc (.cells #[.slice x1 IT.length y1, .slice x2 IP.length y2, .slice x3 IV.length y3] 26)).heap.size := by simp
          clear HK3 HL HM HT3 HZ3 HA3 k0 k1 k2 z0 z1 z2
          generalize w2.alloc (.cells #[.slice x1 IT.length y1, .slice x2 IP.length y2, .slice x3 IV.length y3] 26) = w3 at *
          have r0 := cell_of_row _ _ 0 _ _ _ HZl.out
          have r1 := cell_of_row _ _ 1 _ _ _ HZl.out
          have r2 := cell_of_row _ _ 2 _ _ _ HZl.out
          simp at r0 r1 r2
          have k0 := HK4.out.c0
          have k1 := HK4.out.c1
          have k2 := HK4.out.c2
          have z0 := HK4.out.fz 0
          have z1 := HK4.out.fz 1
          have z2 := HK4.out.fz 2
          go_upto_region 12 with fail
          have HK5 := hide (HK4.out.setLed ⟨HL4.out.1.1, .new HL4.out.1.2 (by omega) (by omega) (by omega)⟩ ⟨HL4.out.2.1.1, .new HL4.out.2.1.2 (by omega) (by omega) (by omega)⟩ ⟨HL4.out.2.2.1, .new HL4.out.2.2.2 (by omega) (by omega) (by omega)⟩)
          have HLf := hide (And.intro HL4.out.1.2 (And.intro HL4.out.2.1.2 HL4.out.2.2.2))
          have HF5 := hide ((((Kq.ofBelow HA4.out (S := KQ K Q)).setCell (p := ⟨K, 0, none⟩) (.inl rfl) (.slice x1 IT.length y1)).setCell (p := ⟨K, 1, none⟩) (.inl rfl) (.slice x2 IP.length y2)).setCell (p := ⟨K, 2, none⟩) (.inl rfl) (.slice x3 IV.length y3))
          have oK : Off od ID K := off_fresh HM4.out.2 (by omega)
          have oQ : Off od ID Q := off_fresh HM4.out.2 (by omega)
          have ob : Off od ID b := off_fresh HM4.out.2 (by omega)
          have HM5 := hide (((HM4.out.1.setO (p := ⟨K, 0, none⟩) oK (.slice x1 IT.length y1)).setO (p := ⟨K, 1, none⟩) oK (.slice x2 IP.length y2)).setO (p := ⟨K, 2, none⟩) oK (.slice x3 IV.length y3))
          have HO := hide (And.intro oK (And.intro oQ ob))
          have HMf := hide HM4.out.2
          have HT5 := hide (((HT4.out.setO (p := ⟨K, 0, none⟩) (HT4.out.offnew (by simp; omega)) (.slice x1 IT.length y1)).setO (p := ⟨K, 1, none⟩) (HT4.out.offnew (by simp; omega)) (.slice x2 IP.length y2)).setO (p := ⟨K, 2, none⟩) (HT4.out.offnew (by simp; omega)) (.slice x3 IV.length y3))
          have HZ5 := hide (heap_setO (heap_setO (heap_setO HZ4.out (p := ⟨K, 0, none⟩) (by simp; omega) (.slice x1 IT.length y1)) (p := ⟨K, 1, none⟩) (by simp; omega) (.slice x2 IP.length y2)) (p := ⟨K, 2, none⟩) (by simp; omega) (.slice x3 IV.length y3))
          have hs5 : w3.heap.size ≤ (((w3.setCell ⟨K, 0, none⟩ (.slice x1 IT.length y1)).setCell ⟨K, 1, none⟩ (.slice x2 IP.length y2)).setCell ⟨K, 2, none⟩ (.slice x3 IV.length y3)).heap.size := by simp only [World.size_setCell]; exact Nat.le_refl _
          clear HK4 HL4 HM4 HT4 HZ4 HA4 HZl r0 r1 r2 k0 k1 k2 z0 z1 z2 oK oQ ob HB0
          generalize (((w3.setCell ⟨K, 0, none⟩ (.slice x1 IT.length y1)).setCell ⟨K, 1, none⟩ (.slice x2 IP.length y2)).setCell ⟨K, 2, none⟩ (.slice x3 IV.length y3)) = w4 at *
          go_wp2_with fail
          refine (keeperDeny_any K Q B _ IT IP IV dv D G W od cd ID w4 HK5.out HM5.out.ats HO.out.1 HO.out.2.1 (by have := HIl.out; omega) (by omega)).mono ?_
          rintro e w5 ⟨⟨rfl, a5, hk5, hl5, ha5, ho5⟩, hf5⟩
          obtain ⟨DV, hDV⟩ : ∃ DV, DV = (denA ID dv D).1 := ⟨_, rfl⟩
          obtain ⟨DD, hDD⟩ : ∃ DD, DD = (denA ID dv D).2 := ⟨_, rfl⟩
          rw [← hDV, ← hDD] at hk5
          rw [← hDD] at hl5 ho5
          have HDE := hide (And.intro hDV hDD)
          clear hDV hDD
          have HF6 := hide (HF5.out.trans hf5)
          have HM6 := hide (HM5.out.kq hf5 (fun x hx => by rcases hx with rfl | rfl <;> first | exact HO.out.1 | exact HO.out.2.1))
          have HZ6 := hide (hf5.obj HZ5.out (fun hx => by rcases hx with h | h <;> omega))
          have HT6 := hide (And.intro HT5.out.1.1.eqs.2.2 (show x.A = [] from by have := congrArg GP.A HX0.out; rw [HGX.out] at this; exact this))
          have HTf := hide (HT5.out.1.2.mono (show B ≤ w1.heap.size by omega))
          have HK6 := hide hk5
          have HA6 := hide (And.intro ha5 ho5)
          have hs6 : w4.heap.size ≤ w5.heap.size := hf5.size
          clear hf5 hk5 ha5 ho5 HM5 HZ5 HT5 HF5 HK5
          have k3 := HK6.out.c3
          have k4 := HK6.out.c4
          go_wp2_with fail
          refine (freshList_any DV DD a5.od a5.cd w5 HK6.out.kl.den.1.ats (by omega)).mono ?_
          rintro e w6 ⟨⟨o6, c6, rfl, hi, hf⟩, hb⟩
          have HK7 := hide (HK6.out.below hb)
          have HF7 := hide (HF6.out.on hb)
          have HM7 := hide (HM6.out.below hb)
          have HZ7 := hide (at_below HZ6.out hb)
          have HD7 := hide (And.intro hi hf)
          have hs7 : w5.heap.size ≤ w6.heap.size := hb.size
          clear hi hf hb HK6 HF6 HM6 HZ6 k3 k4
          have r4 := cell_of_row _ _ 4 _ _ _ HZ7.out
          have r5 := cell_of_row _ _ 5 _ _ _ HZ7.out
          have t4 := frozen_of_row _ _ 4 _ _ HZ7.out
          have t5 := frozen_of_row _ _ 5 _ _ HZ7.out
          simp at r4 r5
          go_upto_region 14 with fail
          have HZ8 := hide (heap_setCell_same _ b 5 _ _ (.slice o6 DD.length c6) (heap_setCell_same w6 b 4 _ _ (.int .i64 DV) HZ7.out))
          have hoff : KOff a5 IT IP IV DD G W b := by
            have h0 := HK0.out.offge (X := b) (by omega)
            have hd := HA6.out.2 b (by omega) h0.2.2.2.1
            have e5 := HA6.out.1
            refine ⟨?_, ?_, ?_, hd, ?_, h0.2.2.2.2.2⟩
            · rw [e5]; exact off_fresh HLf.out.1 (by omega)
            · rw [e5]; exact off_fresh HLf.out.2.1 (by omega)
            · rw [e5]; exact off_fresh HLf.out.2.2 (by omega)
            · rw [e5]; exact h0.2.2.2.2.1
          have HK8 := hide ((HK7.out.setX (p := ⟨b, 4, none⟩) hoff (by simp; omega) (by simp; omega) (.int .i64 DV)).setX (p := ⟨b, 5, none⟩) hoff (by simp; omega) (by simp; omega) (.slice o6 DD.length c6))
          have HF8 := hide ((HF7.out.setNew (p := ⟨b, 4, none⟩) (by simp; omega) (.int .i64 DV)).setNew (p := ⟨b, 5, none⟩) (by simp; omega) (.slice o6 DD.length c6))
          have HM8 := hide ((HM7.out.setO (p := ⟨b, 4, none⟩) HO.out.2.2 (.int .i64 DV)).setO (p := ⟨b, 5, none⟩) HO.out.2.2 (.slice o6 DD.length c6))
          have od6 : Off o6 DD b := off_fresh HD7.out.2 (by omega)
          have HD8 := hide (And.intro ((HD7.out.1.setO (p := ⟨b, 4, none⟩) od6 (.int .i64 DV)).setO (p := ⟨b, 5, none⟩) od6 (.slice o6 DD.length c6)) HD7.out.2)
          have hs8 : w6.heap.size ≤ ((w6.setCell ⟨b, 4, none⟩ (.int .i64 DV)).setCell ⟨b, 5, none⟩ (.slice o6 DD.length c6)).heap.size := by simp only [World.size_setCell]; exact Nat.le_refl _
          clear HK7 HF7 HM7 HZ7 HD7 r4 r5 t4 t5 od6 hoff
          generalize (w6.setCell ⟨b, 4, none⟩ (.int .i64 DV)).setCell ⟨b, 5, none⟩ (.slice o6 DD.length c6) = w7 at *
          refine wp_region_reads (fun w' => w'.heap[K]? = some (boxK a5 Q IT IP IV DV DD G W 79) ∧ w'.heap[b]? = some (.cells #[.int .i64 x.i, .int .i64 x.z, .int .i64 x.s, .slice x.oa x.A.length x.ca, .int .i64 DV, .slice o6 DD.length c6, .int .i64 x.l, .int .i64 x.u] 49)) [0, 1, 2, 3, 4, 5, 6, 7] 1 (by rfl) (by kernel_rfl) (by kernel_rfl) (by kernel_rfl) (fun c d v a w h => by cases d <;> exact h) ?_ ?_
          · exact ⟨at_below HK8.out.box (Below.refl _ _).drew, at_below HZ8.out (Below.refl _ _).drew⟩
          refine wpPureH_step (.pointer (some ⟨K, 0, none⟩)) rfl rfl (fun w' hS => ?_) ?_
          · go_simp
          refine wpPureH_step (.pointer (some ⟨K, 0, none⟩)) rfl rfl (fun w' hS => ?_) ?_
          · go_simp
          refine wpPureH_step (.pointer (some ⟨K, 0, none⟩)) rfl rfl (fun w' hS => ?_) ?_
          · go_simp
          refine wpPureH_step (.pointer (some ⟨K, 5, none⟩)) rfl rfl (fun w' hS => ?_) ?_
          · go_simp
          refine wpPureH_step (.slice (some ⟨Q, 0, none⟩) G.length a5.cg) rfl rfl (fun w' hS => ?_) ?_
          · have k5 : w'.cell? ⟨K, 5, none⟩ = some (.slice (some ⟨Q, 0, none⟩) G.length a5.cg) := by rw [cell_of_row _ _ 5 _ _ _ hS.1]; rfl
            go_simp
          refine wpPureH_step (.int .i64 (q : Int)) rfl rfl (fun w' hS => ?_) ?_
          · go_simp
          refine wpPureH_step (gtV x.i x.z x.s x.oa x.A.length x.ca DV o6 DD.length c6 x.l x.u) rfl rfl (fun w' hS => ?_) ?_
          · have x0 : w'.cell? ⟨b, 0, none⟩ = some (.int .i64 x.i) := by rw [cell_of_row _ _ 0 _ _ _ hS.2]; rfl
            have x1 : w'.cell? ⟨b, 1, none⟩ = some (.int .i64 x.z) := by rw [cell_of_row _ _ 1 _ _ _ hS.2]; rfl
            have x2 : w'.cell? ⟨b, 2, none⟩ = some (.int .i64 x.s) := by rw [cell_of_row _ _ 2 _ _ _ hS.2]; rfl
            have x3 : w'.cell? ⟨b, 3, none⟩ = some (.slice x.oa x.A.length x.ca) := by rw [cell_of_row _ _ 3 _ _ _ hS.2]; rfl
            have x4 : w'.cell? ⟨b, 4, none⟩ = some (.int .i64 DV) := by rw [cell_of_row _ _ 4 _ _ _ hS.2]; rfl
            have x5 : w'.cell? ⟨b, 5, none⟩ = some (.slice o6 DD.length c6) := by rw [cell_of_row _ _ 5 _ _ _ hS.2]; rfl
            have x6 : w'.cell? ⟨b, 6, none⟩ = some (.int .i64 x.l) := by rw [cell_of_row _ _ 6 _ _ _ hS.2]; rfl
            have x7 : w'.cell? ⟨b, 7, none⟩ = some (.int .i64 x.u) := by rw [cell_of_row _ _ 7 _ _ _ hS.2]; rfl
            go_simp
          refine wpPureH_step (.pointer (some ⟨Q, q * 8, none⟩)) rfl rfl (fun w' hS => ?_) ?_
          · go_simp
          refine wpPureH_nil ?_
          have HKd := hide (HK8.out.below (Below.refl _ _).drew)
          have HZd := hide (at_below HZ8.out (Below.refl _ _).drew)
          have HFd := hide (HF8.out.on (Below.refl _ _).drew)
          have HMd := hide (HM8.out.below (Below.refl _ _).drew)
          have HDd := hide (And.intro (HD8.out.1.below (Below.refl _ _).drew) HD8.out.2)
          clear HK8 HZ8 HF8 HM8 HD8
          generalize (World.drew _) = w8 at *
          have g0 := HKd.out.g0 Hq.out
          have g1 := HKd.out.g1 Hq.out
          have g2 := HKd.out.g2 Hq.out
          have g3 := HKd.out.g3 Hq.out
          have g4 := HKd.out.g4 Hq.out
          have g5 := HKd.out.g5 Hq.out
          have g6 := HKd.out.g6 Hq.out
          have g7 := HKd.out.g7 Hq.out
          have f0 := HKd.out.row.frozenAt (q * 8)
          have f1 := HKd.out.row.frozenAt (q * 8 + 1)
          have f2 := HKd.out.row.frozenAt (q * 8 + 2)
          have f3 := HKd.out.row.frozenAt (q * 8 + 3)
          have f4 := HKd.out.row.frozenAt (q * 8 + 4)
          have f5 := HKd.out.row.frozenAt (q * 8 + 5)
          have f6 := HKd.out.row.frozenAt (q * 8 + 6)
          have f7 := HKd.out.row.frozenAt (q * 8 + 7)
          refine one_readyH (i := 8) (by kernel_rfl) rfl rfl (fun J hJ => ?_)
          go_simp
          have HTA : Hid (TapsV w8 (.slice x.oa x.A.length x.ca) x.A ∧ LK B K Q x.oa x.ca x.A) := by
            obtain ⟨⟨t1, t2⟩, t3⟩ := HT6.out
            refine hide ⟨⟨x.oa, x.ca, rfl, fun i p hi => by rw [t3] at hi; simp at hi, t1, t2⟩, ?_, ?_, ?_⟩
            · exact fun k hk => HTf.out k hk
            · exact fun A _ hne => absurd t3 hne
            · exact fun A _ hne => absurd t3 hne
          have HKz := hide (HKd.out.setGate q g { x with v := DV, od := o6, D := DD, cd := c6 } Hq.out HTA.out ⟨HDd.out.1, .new HDd.out.2 (by omega) (by omega) (by omega)⟩)
          have HFz := hide ((((((((HFd.out.setCell (p := ⟨Q, q * 8, none⟩) (.inr rfl) (.int .i64 x.i)).setCell (p := ⟨Q, q * 8 + 1, none⟩) (.inr rfl) (.int .i64 x.z)).setCell (p := ⟨Q, q * 8 + 2, none⟩) (.inr rfl) (.int .i64 x.s)).setCell (p := ⟨Q, q * 8 + 3, none⟩) (.inr rfl) (.slice x.oa x.A.length x.ca)).setCell (p := ⟨Q, q * 8 + 4, none⟩) (.inr rfl) (.int .i64 DV)).setCell (p := ⟨Q, q * 8 + 5, none⟩) (.inr rfl) (.slice o6 DD.length c6)).setCell (p := ⟨Q, q * 8 + 6, none⟩) (.inr rfl) (.int .i64 x.l)).setCell (p := ⟨Q, q * 8 + 7, none⟩) (.inr rfl) (.int .i64 x.u))
          have HMz := hide ((((((((HMd.out.setO (p := ⟨Q, q * 8, none⟩) HO.out.2.1 (.int .i64 x.i)).setO (p := ⟨Q, q * 8 + 1, none⟩) HO.out.2.1 (.int .i64 x.z)).setO (p := ⟨Q, q * 8 + 2, none⟩) HO.out.2.1 (.int .i64 x.s)).setO (p := ⟨Q, q * 8 + 3, none⟩) HO.out.2.1 (.slice x.oa x.A.length x.ca)).setO (p := ⟨Q, q * 8 + 4, none⟩) HO.out.2.1 (.int .i64 DV)).setO (p := ⟨Q, q * 8 + 5, none⟩) HO.out.2.1 (.slice o6 DD.length c6)).setO (p := ⟨Q, q * 8 + 6, none⟩) HO.out.2.1 (.int .i64 x.l)).setO (p := ⟨Q, q * 8 + 7, none⟩) HO.out.2.1 (.int .i64 x.u))
          refine hJ _ _ ?_ ?_
          · have hne' : Q ≠ K := fun e => HKd.out.ne e.symm
            have hnb : Q ≠ b := by omega
            exact ⟨(heap_setO (heap_setO (heap_setO (heap_setO (heap_setO (heap_setO (heap_setO (heap_setO HKd.out.box (p := ⟨Q, q * 8, none⟩) hne' (.int .i64 x.i)) (p := ⟨Q, q * 8 + 1, none⟩) hne' (.int .i64 x.z)) (p := ⟨Q, q * 8 + 2, none⟩) hne' (.int .i64 x.s)) (p := ⟨Q, q * 8 + 3, none⟩) hne' (.slice x.oa x.A.length x.ca)) (p := ⟨Q, q * 8 + 4, none⟩) hne' (.int .i64 DV)) (p := ⟨Q, q * 8 + 5, none⟩) hne' (.slice o6 DD.length c6)) (p := ⟨Q, q * 8 + 6, none⟩) hne' (.int .i64 x.l)) (p := ⟨Q, q * 8 + 7, none⟩) hne' (.int .i64 x.u)), (heap_setO (heap_setO (heap_setO (heap_setO (heap_setO (heap_setO (heap_setO (heap_setO HZd.out (p := ⟨Q, q * 8, none⟩) hnb (.int .i64 x.i)) (p := ⟨Q, q * 8 + 1, none⟩) hnb (.int .i64 x.z)) (p := ⟨Q, q * 8 + 2, none⟩) hnb (.int .i64 x.s)) (p := ⟨Q, q * 8 + 3, none⟩) hnb (.slice x.oa x.A.length x.ca)) (p := ⟨Q, q * 8 + 4, none⟩) hnb (.int .i64 DV)) (p := ⟨Q, q * 8 + 5, none⟩) hnb (.slice o6 DD.length c6)) (p := ⟨Q, q * 8 + 6, none⟩) hnb (.int .i64 x.l)) (p := ⟨Q, q * 8 + 7, none⟩) hnb (.int .i64 x.u))⟩
          have hxx : ({ x with v := DV, od := o6, D := DD, cd := c6 } : GT).p = ⟨g.i, g.z, g.s, [], DV, DD, 9, m + 100⟩ := by
            have hx := HX0.out
            rw [HGX.out] at hx
            simp only [GT.p, GP.mk.injEq] at hx ⊢
            exact ⟨hx.1, hx.2.1, hx.2.2.1, hx.2.2.2.1, trivial, trivial, hx.2.2.2.2.2.2.1, hx.2.2.2.2.2.2.2⟩
          have HXX := hide hxx
          clear hJ J g0 g1 g2 g3 g4 g5 g6 g7 f0 f1 f2 f3 f4 f5 f6 f7 HKd HFd HMd HDd HZd hxx
          generalize ((((((((w8.setCell ⟨Q, q * 8, none⟩ (.int .i64 x.i)).setCell ⟨Q, q * 8 + 1, none⟩ (.int .i64 x.z)).setCell ⟨Q, q * 8 + 2, none⟩ (.int .i64 x.s)).setCell ⟨Q, q * 8 + 3, none⟩ (.slice x.oa x.A.length x.ca)).setCell ⟨Q, q * 8 + 4, none⟩ (.int .i64 DV)).setCell ⟨Q, q * 8 + 5, none⟩ (.slice o6 DD.length c6)).setCell ⟨Q, q * 8 + 6, none⟩ (.int .i64 x.l)).setCell ⟨Q, q * 8 + 7, none⟩ (.int .i64 x.u)) = wz at *
          refine wpAnyH_done (by kernel_rfl) ?_ _
          go_wp2_with fail
          go_ret2
          have hr0 : RE = 0 := HRE2.out
          exact ⟨⟨RE, ID, od, cd, rfl, by rw [if_pos hr0], by rw [hr0]; rfl, ⟨HMz.out, HMf.out.mono (by omega)⟩, fun h => absurd hr0 h, fun _ => ⟨_, _, by rw [← HDE.out.1, ← HDE.out.2]; exact HXX.out, by rw [← HDE.out.1, ← HDE.out.2]; exact HKz.out⟩⟩, HFz.out⟩
        · have hE2' : ¬ E2 = 0 := by simpa using hE2
          go_wp2_with fail
          go_ret2
          have hr : ¬ RE = 0 := by rw [HRE2.out]; exact hE2'
          exact ⟨⟨RE, [], none, 0, rfl, by rw [if_neg hr], by rw [HRE2.out]; rfl, ⟨⟨none, 0, rfl, fun i p h => by simp at h, by simp, fun _ => rfl⟩, fun k hk => by simp [Value.ownBlock] at hk⟩, fun _ => HK3.out.below ((Below.refl w2.heap.size w2).alloc (Nat.le_refl _) _), fun h => absurd h hr⟩, .ofBelow (HA3.out.trans (((Below.refl w2.heap.size w2).alloc (Nat.le_refl _) _).mono HA3.out.size))⟩
      · have hE' : ¬ E1 = 0 := by simpa using hE
        have hre := HRE.out
        rw [if_neg hE'] at hre
        have hr : ¬ RE = 0 := by rw [hre]; exact hE'
        have HRE2 := hide hre
        clear hre HRE
        go_wp2_with fail
        go_ret2
        exact ⟨⟨RE, [], none, 0, rfl, by rw [if_neg hr], by rw [HRE2.out]; rfl, ⟨⟨none, 0, rfl, fun i p h => by simp at h, by simp, fun _ => rfl⟩, fun k hk => by simp [Value.ownBlock] at hk⟩, fun _ => HK2.out, fun h => absurd h hr⟩, .ofBelow HA2.out⟩
end Go.Proofs.YtcjfmbeemdcklaaGreat
