/-
  Texts joined: Z14, F3, F2, F5, F7, F10, F11, Z15, Z20, Z21, Z22, M2, M4, F15, F16, H5, F19, R7, U1, F20, Z24, J10, Z26, Z29, V7, V13, V8, V9, V17.
-/
import Derived.Shelf.SlSortCmp.WholeK
import Derived.Test.YtgidebfgcbkkkaaGreatRows
import Derived.Deep.CutRange
import Derived.Deep.CutBlock
import Derived.BigQuiet
import Derived.WalkSmall
import Derived.Laws.OwnMore
import Derived.Shelf.SlSortCmp.NoneTotal
import Derived.Lib.QuietBelow
import Derived.Test.YtgidebfgcbkkkaaGreatPk4
set_option maxHeartbeats 12800000
set_option maxRecDepth 100000
namespace Go.Proofs.YtgidebfgcbkkkaaGreat
section
open Go.RowKit
def yC : List TP → Int → List Int → Int × List Int
 | [], v, D => (v, D)
 | p :: L, v, D => if addE v D p.a = 0 then yC L (v + 1) (addI D p.a) else yC L v D
theorem Kq.cell {S : Nat → Prop} {a w : World} (h : Kq S a w) {p : Addr} {v : Value} (hc : a.cell? p = some v) (hs : ¬ S p.block) : w.cell? p = some v := by
 rw [World.cell?_of_block (w := a) (h.block p.block (World.block_lt_of_cell? a _ hc) hs)]
 exact hc
theorem zI.kq {S : Nat → Prop} {w w' : World} {o : Option Addr} {L : List TP} (h : zI w o L) (hk : Kq S w w') (ho : ∀ b, S b → Off o L b) : zI w' o L := fun i p hi => by
 obtain ⟨b, hb, c0, c1, c2, c3, c4⟩ := h i p hi
 have ne : ¬ S (b.add (i * 5)).block := fun e => ho _ e b hb (by intro h0; rw [h0] at hi; simp at hi) (yY b _).symm
 exact ⟨b, hb, hk.cell c0 ne, hk.cell (p := ⟨(b.add (i * 5)).block, (b.add (i * 5)).off + 1, none⟩) c1 ne, hk.cell (p := ⟨(b.add (i * 5)).block, (b.add (i * 5)).off + 2, none⟩) c2 ne, hk.cell (p := ⟨(b.add (i * 5)).block, (b.add (i * 5)).off + 3, none⟩) c3 ne, hk.cell (p := ⟨(b.add (i * 5)).block, (b.add (i * 5)).off + 4, none⟩) c4 ne⟩
theorem drop_consP {α : Type} {L : List α} {q : Nat} {p : α} (h : L[q]? = some p) : L.drop q = p :: L.drop (q + 1) := by
 obtain ⟨hlt, rfl⟩ := List.getElem?_eq_some_iff.1 h
 exact List.drop_eq_getElem_cons hlt
theorem add_room {v : Int} {D : List Int} {id : Int} (h : addE v D id = 0) : D.length ≤ 12 := by
 rcases addE_ways v D id with ⟨h1, e⟩ | ⟨-, -, e⟩ | ⟨-, -, -, e⟩ | ⟨h1, -⟩
 ·rw [e] at h
  rw [h] at h1
  cases h1
 ·omega
 ·omega
 ·exact (yE (unfD_right h1).1).2.2.1
theorem keeperDeny_any (K Q B : Nat) (a : KA) (T : List TK) (P : List TP) (V : List Int) (dv : Int) (D : List Int) (G : List GT) (W : List VW) (o : Option Addr) (c : Nat) (M : List TP) (w : World) (hK : Ks w K Q B a T P V dv D G W) (hM : zI w o M) (hoK : Off o M K) (hoQ : Off o M Q) (hlM : M.length ≤ 9223372036854775807) (hlD : D.length ≤ 60) :
  Calls Tryz.prog 112 #[.pointer (some ⟨K, 0, none⟩), .slice o M.length c] w fun e w' => (e = .returned (.tuple #[]) ∧ ∃ a', Ks w' K Q B a' T P V (yC M dv D).1 (yC M dv D).2 G W ∧ (yC M dv D).2.length ≤ 60 ∧ a' = { a with od := a'.od, cd := a'.cd } ∧ ∀ X, X < w.heap.size → Off a.od D X → Off a'.od (yC M dv D).2 X) ∧ Kq (KQ K Q) w w' := by
 have HM := zA hM
 have HO := zA (And.intro hoK hoQ)
 have HK := zA hK
 clear hM hoK hoQ hK
 obtain ⟨RV, RD, hR⟩ : ∃ RV RD, yC M dv D = (RV, RD) := ⟨_, _, rfl⟩
 rw [hR]
 have HR := zA hR
 clear hR
 go_enter Tryz.func112, Tryz.ntmps112
 go_wp2_with fail
 go_loopw [10] (fun j wr => ∃ (q : Nat) (v : Int) (D' : List Int) (a' : KA), q ≤ M.length ∧ j = .int .i64 q ∧ D'.length ≤ 60 ∧ Hid (yC M dv D = yC (M.drop q) v D') ∧ Hid (Ks wr K Q B a' T P V v D' G W) ∧ Hid (Kq (KQ K Q) w wr) ∧ Hid (a' = { a with od := a'.od, cd := a'.cd } ∧ ∀ X, X < w.heap.size → Off a.od D X → Off a'.od D' X)) (fun j _ => M.length - (intOf j).toNat)
 case atStart => exact ⟨0, dv, D, a, Nat.zero_le _, rfl, hlD, by show _ = _; rw [List.drop_zero], HK, Kq.refl _ _, zA ⟨rfl, fun X _ h => h⟩⟩
 case round =>
  obtain ⟨q, v, D', a', hq, rfl, hlD', HE, HKr, HF, HA⟩ := hrel
  by_cases hgo : q < M.length
  ·obtain ⟨p, hp⟩ : ∃ p, M[q]? = some p := ⟨M[q], by simp [hgo]⟩
   obtain ⟨A', rfl, c0, c1, c2, c3, c4⟩ := (HM.out.kq HF.out (fun b hb => by rcases hb with rfl | rfl <;> first | exact HO.out.1 | exact HO.out.2)) q p hp
   have hE' := HE.out
   rw [drop_consP hp, yC] at hE'
   have HE1 := zA hE'
   have HB0 := zA ((zL.nil wr).more (.cells #[.int .i64 p.a, .int .i64 p.g, .int .i64 p.s, .int .i64 p.m, .int .i64 p.z] 79) (by simp))
   have HKa := zA (HKr.out.below HB0.out.2.2)
   have hwr0 := HF.out.size
   have hw1 : wr.heap.size < (wr.alloc (.cells #[.int .i64 p.a, .int .i64 p.g, .int .i64 p.s, .int .i64 p.m, .int .i64 p.z] 79)).heap.size := by simp
   have hKlt := HKr.out.lt
   have hQlt := HKr.out.qlt
   have hbk := HKr.out.bk
   have HAdd := zA (fun X (h : Ks X K Q B a' T P V v D' G W) => addF_any v p.a D' a'.od a'.cd X h.kl.den.1.ats (by omega) h.kl.den.1.eqs.2.2.1 h.kl.den.1.eqs.2.2.2)
   have HRm := zA (fun h : addE v D' p.a = 0 => add_room h)
   generalize hEE : addE v D' p.a = E at *
   clear hEE
   obtain ⟨D2, hD2⟩ : ∃ D2, D2 = if E = 0 then addI D' p.a else [] := ⟨_, rfl⟩
   obtain ⟨n2, hn2⟩ : ∃ n2, n2 = if E = 0 then v + 1 else 0 := ⟨_, rfl⟩
   rw [← hD2, ← hn2] at HAdd
   have HD2 := zA (And.intro hD2 hn2)
   clear hD2 hn2 hE' HE hp
   go_upto_region 3 with fail
   generalize wr.alloc (.cells #[.int .i64 p.a, .int .i64 p.g, .int .i64 p.s, .int .i64 p.m, .int .i64 p.z] 79) = wa at *
   clear c0 c1 c2 c3 c4
   go_cut [6, 7] from 14 to 25 (fun s6 s7 wx => ∃ b n x y, s6 = .pointer (some ⟨b, 0, none⟩) ∧ s7 = .int .i64 E ∧ Hid (wa.heap.size ≤ b ∧ wx.heap[b]? = some (.cells #[.int .i64 n, .slice x D2.length y] 28)) ∧ Hid ((zP wx (.slice x D2.length y) D2 ∧ zK wa.heap.size (.slice x D2.length y)) ∧ (E = 0 → n = v + 1)) ∧ Hid (Below wa.heap.size wa wx))
   case first =>
    refine zJ (fun w' => Ks w' K Q B a' T P V v D' G W ∧ zL wr w' [.cells #[.int .i64 p.a, .int .i64 p.g, .int .i64 p.s, .int .i64 p.m, .int .i64 p.z] 79]) [0, 1, 2, 3, 4, 5, 6] 7 (by rfl) (by kernel_rfl) (by kernel_rfl) (by kernel_rfl) (fun c d v a w h => by cases d <;> exact h) ?_ ?_
    ·exact ⟨HKa.out.below (Below.refl _ _).drew, HB0.out.on (Below.refl _ _).drew⟩
    refine zB (.pointer (some ⟨K, 0, none⟩)) rfl rfl (fun w' hS => ?_) ?_
    ·go_simp
    refine zB (.pointer (some ⟨K, 0, none⟩)) rfl rfl (fun w' hS => ?_) ?_
    ·go_simp
    refine zB (.pointer (some ⟨K, 0, none⟩)) rfl rfl (fun w' hS => ?_) ?_
    ·go_simp
    refine zB (.pointer (some ⟨K, 3, none⟩)) rfl rfl (fun w' hS => ?_) ?_
    ·go_simp
    refine zB (dn v a'.od D'.length a'.cd) rfl rfl (fun w' hS => ?_) ?_
    ·have k3 := hS.1.c3
     have k4 := hS.1.c4
     go_simp
    refine zB (.pointer (some ⟨wr.heap.size, 0, none⟩)) rfl rfl (fun w' hS => ?_) ?_
    ·go_simp
    refine zB (.int .i64 p.a) rfl rfl (fun w' hS => ?_) ?_
    ·have x0 : w'.cell? ⟨wr.heap.size, 0, none⟩ = some (.int .i64 p.a) := hS.2.cell 0 0 wr.heap.size _ _ _ rfl rfl rfl
     go_simp
    refine zE ?_
    have HKd := zA (HKa.out.below (Below.refl _ _).drew)
    have HBd := zA (HB0.out.on (Below.refl _ _).drew)
    have HAd := zA ((Below.refl wa.heap.size wa).drew)
    have hsd : wa.heap.size ≤ wa.drew.heap.size := Nat.le_refl _
    clear HKa HB0
    generalize (World.drew _) = w0 at *
    refine zT (i := 7) (j := 11) (by kernel_rfl) rfl rfl rfl rfl (fun J hJ => ?_) (fun J hJ => ?_)
    ·go_simp
     refine (HAdd.out w0 HKd.out).mono ?_
     rintro e u1 ⟨⟨lv, rfl, hN⟩, hb⟩
     obtain ⟨u, rfl, hi, hf⟩ := hN
     obtain ⟨x, y, rfl, hi'⟩ := hi
     have HN := zA (And.intro (show zP u1 (.slice x D2.length y) D2 from ⟨_, _, rfl, hi'⟩) hf)
     clear hi' hf
     have HB := zA hb
     refine hJ _ _ ⟨HKd.out.below HB.out, HBd.out.on HB.out⟩ ?_
     clear hJ J hb
     refine yB (fuel := 3) (by kernel_rfl) (fun c d v a w h => by cases d <;> exact h) ⟨HKd.out.below HB.out, HBd.out.on HB.out⟩ [8, 9, 10] _ _ (by kernel_rfl) ?_
     refine pS (.tuple #[dn n2 x D2.length y, .int .i64 E]) rfl rfl ?_
     refine pS (dn n2 x D2.length y) rfl rfl ?_
     refine pS (.int .i64 E) rfl rfl ?_
     refine zE ?_
     refine oR 11 rfl rfl fun J hJ => ?_
     go_simp
     have hba := (Below.refl u1.heap.size u1).alloc (Nat.le_refl _) (.cells #[.int .i64 0, .slice none 0 0] 28)
     have HBa := zA (HB.out.trans (hba.mono HB.out.size))
     have Hba := zA hba
     have hZ : (u1.alloc (.cells #[.int .i64 0, .slice none 0 0] 28)).heap[u1.heap.size]? = some (.cells #[.int .i64 0, .slice none 0 0] 28) := heap_alloc_new u1 _
     have hlb := HB.out.size
     refine hJ _ _ ⟨HKd.out.below HBa.out, HBd.out.on HBa.out⟩ ?_
     clear hJ J hba HB
     generalize u1.alloc (.cells #[.int .i64 0, .slice none 0 0] 28) = u2 at *
     have r0 := cell_of_row _ _ 0 _ _ _ hZ
     have s0 := frozen_of_row _ _ 0 _ _ hZ
     have r1 := cell_of_row _ _ 1 _ _ _ hZ
     have s1 := frozen_of_row _ _ 1 _ _ hZ
     simp at r0 r1
     have HZ : Hid (((u2.setCell ⟨u1.heap.size, 0, none⟩ (.int .i64 n2)).setCell ⟨u1.heap.size, 1, none⟩ (.slice x D2.length y)).heap[u1.heap.size]? = some (.cells #[.int .i64 n2, .slice x D2.length y] 28)) := zA (heap_setCell_same _ u1.heap.size 1 _ _ (.slice x D2.length y) (heap_setCell_same _ u1.heap.size 0 _ _ (.int .i64 n2) hZ))
     have HBz := zA ((HBa.out.setCell (p := ⟨u1.heap.size, 0, none⟩) hlb (.int .i64 n2)).setCell (p := ⟨u1.heap.size, 1, none⟩) hlb (.slice x D2.length y))
     have hbz := ((Hba.out.setCell (p := ⟨u1.heap.size, 0, none⟩) (Nat.le_refl _) (.int .i64 n2)).setCell (p := ⟨u1.heap.size, 1, none⟩) (Nat.le_refl _) (.slice x D2.length y))
     have HNz := zA (And.intro (HN.out.1.below hbz) HN.out.2)
     clear hbz Hba
     refine oR 12 rfl rfl fun J hJ => ?_
     go_simp
     refine hJ _ _ ⟨HKd.out.below HBz.out, HBd.out.on HBz.out⟩ ?_
     clear hJ J r0 s0 r1 s1 hZ HBa HN
     generalize ((u2.setCell ⟨u1.heap.size, 0, none⟩ (.int .i64 n2)).setCell ⟨u1.heap.size, 1, none⟩ (.slice x D2.length y)) = uz at *
     refine oR 13 rfl rfl fun J hJ => ?_
     go_simp
     refine hJ _ _ ⟨HKd.out.below HBz.out, HBd.out.on HBz.out⟩ ?_
     clear hJ J
     refine wpAnyH_done (by kernel_rfl) ?_ _
     go_wp2_with fail
     go_meet
     case rel => exact ⟨u1.heap.size, n2, x, y, rfl, rfl, zA ⟨by omega, HZ.out⟩, zA ⟨⟨HNz.out.1, HNz.out.2.mono (by omega)⟩, fun h => by have := HD2.out.2; rw [this, if_pos h]⟩, zA (HAd.out.trans (HBz.out.mono HAd.out.size))⟩
    ·go_simp
     have hba := (Below.refl w0.heap.size w0).alloc (Nat.le_refl _) (.cells #[.int .i64 0, .slice none 0 0] 28)
     have HB := zA hba
     have hZ0 : Hid ((w0.alloc (.cells #[.int .i64 0, .slice none 0 0] 28)).heap[w0.heap.size]? = some (.cells #[.int .i64 0, .slice none 0 0] 28)) := zA (heap_alloc_new w0 _)
     have hs1 : (w0.alloc (.cells #[.int .i64 0, .slice none 0 0] 28)).heap.size = w0.heap.size + 1 := by simp
     refine hJ _ _ ⟨HKd.out.below HB.out, HBd.out.on HB.out⟩ ?_
     clear hJ J hba
     generalize w0.alloc (.cells #[.int .i64 0, .slice none 0 0] 28) = u1 at *
     refine oR 7 rfl rfl fun J hJ => ?_
     go_simp
     refine (HAdd.out _ (HKd.out.below HB.out)).mono ?_
     rintro e u2 ⟨⟨lv, rfl, hN⟩, hb⟩
     obtain ⟨u, rfl, hi, hf⟩ := hN
     obtain ⟨x, y, rfl, hi'⟩ := hi
     have HN := zA (And.intro (show zP u2 (.slice x D2.length y) D2 from ⟨_, _, rfl, hi'⟩) hf)
     clear hi' hf
     have HBa := trR HB hb
     have hZ : u2.heap[w0.heap.size]? = some (.cells #[.int .i64 0, .slice none 0 0] 28) := zC hZ0.out hb
     have hlb : w0.heap.size ≤ w0.heap.size := Nat.le_refl _
     refine hJ _ _ ⟨HKd.out.below HBa.out, HBd.out.on HBa.out⟩ ?_
     clear hJ J hb HB hZ0
     refine yB (fuel := 2) (by kernel_rfl) (fun c d v a w h => by cases d <;> exact h) ⟨HKd.out.below HBa.out, HBd.out.on HBa.out⟩ [8, 9, 10] _ _ (by kernel_rfl) ?_
     refine pS (.tuple #[dn n2 x D2.length y, .int .i64 E]) rfl rfl ?_
     refine pS (dn n2 x D2.length y) rfl rfl ?_
     refine pS (.int .i64 E) rfl rfl ?_
     refine zE ?_
     have r0 := cell_of_row _ _ 0 _ _ _ hZ
     have s0 := frozen_of_row _ _ 0 _ _ hZ
     have r1 := cell_of_row _ _ 1 _ _ _ hZ
     have s1 := frozen_of_row _ _ 1 _ _ hZ
     simp at r0 r1
     have HZ : Hid (((u2.setCell ⟨w0.heap.size, 0, none⟩ (.int .i64 n2)).setCell ⟨w0.heap.size, 1, none⟩ (.slice x D2.length y)).heap[w0.heap.size]? = some (.cells #[.int .i64 n2, .slice x D2.length y] 28)) := zA (heap_setCell_same _ w0.heap.size 1 _ _ (.slice x D2.length y) (heap_setCell_same _ w0.heap.size 0 _ _ (.int .i64 n2) hZ))
     have HBz := zA ((HBa.out.setCell (p := ⟨w0.heap.size, 0, none⟩) hlb (.int .i64 n2)).setCell (p := ⟨w0.heap.size, 1, none⟩) hlb (.slice x D2.length y))
     have HNz := zA (And.intro ((HN.out.1.set HN.out.2 (p := ⟨w0.heap.size, 0, none⟩) (show w0.heap.size < u1.heap.size by omega) (.int .i64 n2)).set HN.out.2 (p := ⟨w0.heap.size, 1, none⟩) (show w0.heap.size < u1.heap.size by omega) (.slice x D2.length y)) HN.out.2)
     refine oR 12 rfl rfl fun J hJ => ?_
     go_simp
     refine hJ _ _ ⟨HKd.out.below HBz.out, HBd.out.on HBz.out⟩ ?_
     clear hJ J r0 s0 r1 s1 hZ HBa HN
     generalize ((u2.setCell ⟨w0.heap.size, 0, none⟩ (.int .i64 n2)).setCell ⟨w0.heap.size, 1, none⟩ (.slice x D2.length y)) = uz at *
     refine oR 13 rfl rfl fun J hJ => ?_
     go_simp
     refine hJ _ _ ⟨HKd.out.below HBz.out, HBd.out.on HBz.out⟩ ?_
     clear hJ J
     refine wpAnyH_done (by kernel_rfl) ?_ _
     go_wp2_with fail
     go_meet
     case rel => exact ⟨w0.heap.size, n2, x, y, rfl, rfl, zA ⟨by omega, HZ.out⟩, zA ⟨⟨HNz.out.1, HNz.out.2.mono (by omega)⟩, fun h => by have := HD2.out.2; rw [this, if_pos h]⟩, zA (HAd.out.trans (HBz.out.mono HAd.out.size))⟩
   case rest =>
    obtain ⟨b, n, x, y, rfl, rfl, HZ, HN, HB⟩ := hcut
    have HK2 := zA (HKa.out.below HB.out)
    have HF2 := zA ((HF.out.on HB0.out.2.2).on HB.out)
    clear HKa HB0 HAdd HF HKr
    rcases hE : (E == 0) with _ | _
    ·have hE' : ¬ E = 0 := by simpa using hE
     have hE1 := HE1.out
     rw [if_neg hE'] at hE1
     have HE2 := zA hE1
     clear hE1 HE1
     go_wp2_with fail
     exact ⟨⟨q + 1, v, D', a', by omega, by simp, hlD', HE2, HK2, HF2, HA⟩, by simp [intOf]; omega⟩
    ·obtain rfl : E = 0 := by simpa using hE
     have hE1 := HE1.out
     rw [if_pos rfl] at hE1
     have HE2 := zA hE1
     obtain ⟨hD2, -⟩ := HD2.out
     rw [if_pos rfl] at hD2
     have hl2 : D2.length ≤ 60 := by
      rw [hD2, addI_len]
      have := HRm.out rfl
      omega
     have HDD := zA hD2
     have hnv : Hid (n = v + 1) := zA (HN.out.2 rfl)
     clear hE1 HE1 hD2 HD2
     have r0 := cell_of_row _ _ 0 _ _ _ HZ.out.2
     have r1 := cell_of_row _ _ 1 _ _ _ HZ.out.2
     simp at r0 r1
     have k3 := HK2.out.c3
     have k4 := HK2.out.c4
     have z3 := HK2.out.fz 3
     have z4 := HK2.out.fz 4
     have HK3 := zA (HK2.out.setDen (n := n) ⟨HN.out.1.1, .new HN.out.1.2 (by omega) (by omega) (by omega)⟩)
     have HF3 := zA ((HF2.out.setCell (p := ⟨K, 3, none⟩) (.inl rfl) (.int .i64 n)).setCell (p := ⟨K, 4, none⟩) (.inl rfl) (.slice x D2.length y))
     have HA3 : Hid (({ a' with od := x, cd := y } : KA) = { a with od := x, cd := y } ∧ ∀ X, X < w.heap.size → Off a.od D X → Off x D2 X) := zA ⟨by rw [HA.out.1], fun X hX _ => zQ HN.out.1.2 (by have := HF2.out.size; omega)⟩
     clear HK2 HF2
     go_wp2_with fail
     refine ⟨⟨q + 1, n, D2, _, by omega, by simp, hl2, ?_, HK3, HF3, HA3⟩, by simp [intOf]; omega⟩
     show _ = _
     rw [hnv.out, HDD.out]
     exact HE2.out
  ·have hE' := HE.out
   rw [List.drop_of_length_le (by omega), yC, HR.out] at hE'
   simp only [Prod.mk.injEq] at hE'
   have HRE := zA hE'
   clear hE'
   go_wp2_with fail
   go_end0
   exact ⟨⟨rfl, a', by rw [HRE.out.1, HRE.out.2]; exact HKr.out, by rw [HRE.out.2]; exact hlD', HA.out.1, by rw [HRE.out.2]; exact HA.out.2⟩, HF.out⟩
theorem dropP {L : List TP} {q : Nat} {x : TP} (h : L[q]? = some x) : L.drop q = x :: L.drop (q + 1) := by
 obtain ⟨h1, h2⟩ := List.getElem?_eq_some_iff.1 h
 rw [List.drop_eq_getElem_cons h1, h2]
theorem eachC_any (o : Option Addr) (cap : Nat) (L : List TP) (w : World) (hL : zI w o L) (hlen : L.length ≤ 9223372036854775807) :
  Calls Tryz.prog 143 #[.slice o L.length cap, .func (.func 162) #[] #[]] w fun x w' => x = .returned (.int .i64 (zG (L.map yK))) ∧ Below w.heap.size w w' := by
 have HL := zA hL
 obtain ⟨R, hR⟩ : ∃ R, R = zG (L.map yK) := ⟨_, rfl⟩
 rw [← hR]
 have HR := zA hR
 clear hL hR
 go_enter Tryz.func143, Tryz.ntmps143
 go_wp2_with fail
 go_loopw [10] (fun j wr => ∃ (q : Nat), q ≤ L.length ∧ j = .int .i64 q ∧ Hid (zG (L.map yK) = zG ((L.drop q).map yK)) ∧ Below w.heap.size w wr) (fun j _ => L.length - (intOf j).toNat)
 case atStart => exact ⟨0, Nat.zero_le _, rfl, by show _ = _; simp, Below.refl _ _⟩
 case round =>
  obtain ⟨q, hq, rfl, hE, hbr⟩ := hrel
  by_cases hgo : q < L.length
  ·obtain ⟨p, hp⟩ : ∃ p, L[q]? = some p := ⟨L[q], by simp [hgo]⟩
   obtain ⟨A, rfl, c0, c1, c2, c3, c4⟩ := (HL.out.below hbr) q p hp
   have hE' := hE.out
   rw [dropP hp, List.map_cons, zG] at hE'
   clear hE hp
   have HV := zA (fun W => checkP_any p.a p.g p.s p.m p.z W)
   have HE := zA hE'
   clear hE'
   have HW := zA hbr
   go_wp2_with fail
   refine (HV.out _).mono ?_
   rintro e w3 ⟨rfl, hb3⟩
   have HB := zA (HW.out.trans ((Below.alloc (Below.refl wr.heap.size wr) (Nat.le_refl _) (.cells #[.int .i64 p.a, .int .i64 p.g, .int .i64 p.s, .int .i64 p.m, .int .i64 p.z] 79)).trans (hb3.mono (by simp)) |>.mono HW.out.size))
   clear hbr hb3
   have hC : yK p = vB p.a p.g p.s p.m p.z := rfl
   rw [hC] at HE
   clear hC
   generalize vB p.a p.g p.s p.m p.z = E at *
   by_cases h0 : E = 0
   ·subst h0
    have HE' := zA (show zG (L.map yK) = zG ((L.drop (q + 1)).map yK) from HE.out)
    go_wp2_with fail
    exact ⟨⟨q + 1, by omega, by simp, HE', HB.out⟩, by simp [intOf]; omega⟩
   ·have h0' : (E != 0) = true := by simpa using h0
    have HR' : Hid (R = E) := by
     show _ = _
     have h1 := HE.out
     rw [if_neg h0] at h1
     rw [HR.out, h1]
    clear h0
    go_wp2_with fail
    go_ret
    exact ⟨by rw [HR'.out]; rfl, HB.out⟩
  ·have hE' := hE.out
   rw [List.drop_of_length_le (by omega)] at hE'
   have HR' := zA (show R = 0 by rw [HR.out, hE']; rfl)
   clear hE'
   go_wp2_with fail
   go_ret
   exact ⟨by rw [HR'.out]; rfl, hbr⟩
end
section
open Go.RowKit
open Go.Sort (grow alloc_eq_grow grow_grow)
theorem drop_consI {α : Type} {L : List α} {q : Nat} {x : α} (h : L[q]? = some x) : L.drop q = x :: L.drop (q + 1) := by
 obtain ⟨h1, h2⟩ := List.getElem?_eq_some_iff.1 h
 rw [List.drop_eq_getElem_cons h1, h2]
theorem or_any (o : Option Addr) (L : List Int) (cap : Nat) (w : World) (hL : zH w o L) (hlen : L.length ≤ 60) :
  Calls Tryz.prog 192 #[.slice o L.length cap] w fun e w' => e = .returned (.int .i64 (zG L)) ∧ w' = w := by
 have HL := zA hL
 obtain ⟨R, hR⟩ : ∃ R, R = zG L := ⟨_, rfl⟩
 rw [← hR]
 have HR := zA hR
 clear hL hR
 go_enter Tryz.func192, Tryz.ntmps192
 go_wp2_with fail
 go_loopw [8] (fun j wr => ∃ (q : Nat), q ≤ L.length ∧ j = .int .i64 q ∧ Hid (zG L = zG (L.drop q)) ∧ wr = w) (fun j _ => L.length - (intOf j).toNat)
 case atStart => exact ⟨0, Nat.zero_le _, rfl, by show _ = _; simp, rfl⟩
 case round =>
  obtain ⟨q, hq, rfl, hE, hw⟩ := hrel
  obtain rfl := hw.symm
  by_cases hgo : q < L.length
  ·obtain ⟨x, hx⟩ : ∃ x, L[q]? = some x := ⟨L[q], by simp [hgo]⟩
   obtain ⟨A, rfl, c0⟩ := HL.out q x hx
   have hE' := hE.out
   rw [drop_consI hx, zG] at hE'
   clear hE hx
   by_cases h0 : x = 0
   ·subst h0
    have HE := zA (show zG L = zG (L.drop (q + 1)) by rw [hE']; rfl)
    clear hE'
    go_wp2_with fail
    exact ⟨⟨q + 1, by omega, by simp, HE, by first | rfl | trivial⟩, by simp [intOf]; omega⟩
   ·rw [if_neg h0] at hE'
    have HE := zA (show R = x by rw [HR.out, hE'])
    have h0' : (x != 0) = true := by simpa using h0
    clear hE' h0
    go_wp2_with fail
    go_ret
    exact ⟨by rw [HE.out]; rfl, rfl⟩
  ·have hE' := hE.out
   rw [List.drop_of_length_le (by omega)] at hE'
   have HE := zA (show R = 0 by rw [HR.out, hE']; rfl)
   clear hE'
   go_wp2_with fail
   go_ret
   exact ⟨by rw [HE.out]; rfl, rfl⟩
def riseV (p q : TP) : Int := zG [jF p.m q.m, jF p.g q.g, jF p.s q.s]
theorem rise_any (p q : TP) (W : World) :
  Calls Tryz.prog 169 #[.agg #[.int .i64 p.a, .int .i64 p.g, .int .i64 p.s, .int .i64 p.m, .int .i64 p.z], .agg #[.int .i64 q.a, .int .i64 q.g, .int .i64 q.s, .int .i64 q.m, .int .i64 q.z]] W fun e w' => e = .returned (.int .i64 (riseV p q)) ∧ ∃ n os, w' = grow (W.drewN n) os := by
 have HG := zA (((zL.nil W).more (.cells #[.int .i64 p.a, .int .i64 p.g, .int .i64 p.s, .int .i64 p.m, .int .i64 p.z] 79) (by simp)).more (.cells #[.int .i64 q.a, .int .i64 q.g, .int .i64 q.s, .int .i64 q.m, .int .i64 q.z] 79) (by simp))
 have HO := zA (fun (W' : World) (o : Option Addr) (c : Nat) (h : zH W' o [jF p.m q.m, jF p.g q.g, jF p.s q.s]) => or_any o _ c W' h (by simp))
 rw [riseV]
 generalize hR : zG [jF p.m q.m, jF p.g q.g, jF p.s q.s] = R at *
 clear hR
 go_enter Tryz.func169, Tryz.ntmps169
 go_wp2_with fail
 have HW : Hid (∃ os, (W.alloc (.cells #[.int .i64 p.a, .int .i64 p.g, .int .i64 p.s, .int .i64 p.m, .int .i64 p.z] 79)).alloc (.cells #[.int .i64 q.a, .int .i64 q.g, .int .i64 q.s, .int .i64 q.m, .int .i64 q.z] 79) = grow W os) := ⟨_, by rw [alloc_eq_grow, alloc_eq_grow, grow_grow]⟩
 generalize (W.alloc _).alloc _ = w0 at *
 refine zJ (fun w' => zL W w' [.cells #[.int .i64 p.a, .int .i64 p.g, .int .i64 p.s, .int .i64 p.m, .int .i64 p.z] 79, .cells #[.int .i64 q.a, .int .i64 q.g, .int .i64 q.s, .int .i64 q.m, .int .i64 q.z] 79]) [0, 1, 2, 3, 5, 6, 7, 8, 10, 11, 12, 13] 6 (by rfl) (by kernel_rfl) (by kernel_rfl) (by kernel_rfl) (fun c d v a w h => by cases d <;> exact h) ?_ ?_
 ·exact HG.out.on (Below.refl _ _).drew
 refine zB (.pointer (some ⟨W.heap.size, 3, none⟩)) rfl rfl (fun w' hS => ?_) ?_
 ·have k0 := hS.cell 0 3 (W.heap.size) _ _ _ rfl rfl rfl
  go_simp
 refine zB (.int .i64 p.m) rfl rfl (fun w' hS => ?_) ?_
 ·have k0 := hS.cell 0 3 (W.heap.size) _ _ _ rfl rfl rfl
  go_simp
 refine zB (.pointer (some ⟨W.heap.size + 1, 3, none⟩)) rfl rfl (fun w' hS => ?_) ?_
 ·have k0 := hS.cell 1 3 (W.heap.size + 1) _ _ _ rfl rfl rfl
  go_simp
 refine zB (.int .i64 q.m) rfl rfl (fun w' hS => ?_) ?_
 ·have k0 := hS.cell 1 3 (W.heap.size + 1) _ _ _ rfl rfl rfl
  go_simp
 refine zB (.pointer (some ⟨W.heap.size, 1, none⟩)) rfl rfl (fun w' hS => ?_) ?_
 ·have k0 := hS.cell 0 1 (W.heap.size) _ _ _ rfl rfl rfl
  go_simp
 refine zB (.int .i64 p.g) rfl rfl (fun w' hS => ?_) ?_
 ·have k0 := hS.cell 0 1 (W.heap.size) _ _ _ rfl rfl rfl
  go_simp
 refine zB (.pointer (some ⟨W.heap.size + 1, 1, none⟩)) rfl rfl (fun w' hS => ?_) ?_
 ·have k0 := hS.cell 1 1 (W.heap.size + 1) _ _ _ rfl rfl rfl
  go_simp
 refine zB (.int .i64 q.g) rfl rfl (fun w' hS => ?_) ?_
 ·have k0 := hS.cell 1 1 (W.heap.size + 1) _ _ _ rfl rfl rfl
  go_simp
 refine zB (.pointer (some ⟨W.heap.size, 2, none⟩)) rfl rfl (fun w' hS => ?_) ?_
 ·have k0 := hS.cell 0 2 (W.heap.size) _ _ _ rfl rfl rfl
  go_simp
 refine zB (.int .i64 p.s) rfl rfl (fun w' hS => ?_) ?_
 ·have k0 := hS.cell 0 2 (W.heap.size) _ _ _ rfl rfl rfl
  go_simp
 refine zB (.pointer (some ⟨W.heap.size + 1, 2, none⟩)) rfl rfl (fun w' hS => ?_) ?_
 ·have k0 := hS.cell 1 2 (W.heap.size + 1) _ _ _ rfl rfl rfl
  go_simp
 refine zB (.int .i64 q.s) rfl rfl (fun w' hS => ?_) ?_
 ·have k0 := hS.cell 1 2 (W.heap.size + 1) _ _ _ rfl rfl rfl
  go_simp
 refine zE ?_
 have HGd := zA (HG.out.on (Below.refl _ _).drew)
 have HWd : Hid (∃ n os, w0.drew = grow (W.drewN n) os) := by
  obtain ⟨os, e⟩ := HW.out
  exact ⟨1, os, by rw [e]; rfl⟩
 clear HG HW
 generalize World.drew _ = wa at *
 refine oR 4 rfl rfl fun K hK => ?_
 go_simp
 refine (compare_any p.m q.m wa).mono ?_
 rintro e w' ⟨rfl, hw'⟩
 obtain rfl := hw'.symm
 refine hK _ _ HGd.out ?_
 clear hK K
 refine oR 9 rfl rfl fun K hK => ?_
 go_simp
 refine (compare_any p.g q.g wa).mono ?_
 rintro e w' ⟨rfl, hw'⟩
 obtain rfl := hw'.symm
 refine hK _ _ HGd.out ?_
 clear hK K
 refine oR 14 rfl rfl fun K hK => ?_
 go_simp
 refine (compare_any p.s q.s wa).mono ?_
 rintro e w' ⟨rfl, hw'⟩
 obtain rfl := hw'.symm
 refine hK _ _ HGd.out ?_
 clear hK K
 generalize jF p.m q.m = x1 at *
 generalize jF p.g q.g = x2 at *
 generalize jF p.s q.s = x3 at *
 refine oR 15 rfl rfl fun K hK => ?_
 go_simp
 have HGe := zA (HGd.out.on ((Below.refl wa.heap.size wa).alloc (Nat.le_refl _) (.cells #[.int .i64 x1, .int .i64 x2, .int .i64 x3] 3)))
 refine hK _ _ HGe.out ?_
 clear hK K
 have HI : Hid (zH (wa.alloc (.cells #[.int .i64 x1, .int .i64 x2, .int .i64 x3] 3)) (some ⟨wa.heap.size, 0, none⟩) [x1, x2, x3]) := by
  intro i v hi
  refine ⟨_, rfl, ?_⟩
  match i, hi with
  | 0, hi | 1, hi | 2, hi =>
   simp at hi
   subst hi
   simp [Addr.add, go_sem]
 have HWe : Hid (∃ n os, wa.alloc (.cells #[.int .i64 x1, .int .i64 x2, .int .i64 x3] 3) = grow (W.drewN n) os) := by
  obtain ⟨n, os, e⟩ := HWd.out
  exact ⟨n, _, by rw [e, alloc_eq_grow, grow_grow]⟩
 clear HGd HWd
 refine oR 16 rfl rfl fun K hK => ?_
 go_simp
 refine (HO.out _ _ 3 HI.out).mono ?_
 rintro e w' ⟨rfl, hw'⟩
 obtain rfl := hw'.symm
 refine hK _ _ HGe.out ?_
 clear hK K
 refine oR 17 rfl rfl fun K hK => ?_
 go_simp
 refine hK _ _ HGe.out ?_
 clear hK K
 refine wpAnyH_done (by kernel_rfl) ?_ _
 go_wp2_with fail
 go_ret
 exact ⟨rfl, HWe.out⟩
def befP (p q : TP) : Prop := p.m < q.m ∨ (p.m = q.m ∧ (p.g < q.g ∨ (p.g = q.g ∧ p.s < q.s)))
instance (p q : TP) : Decidable (befP p q) := by unfold befP; infer_instance
theorem cmpV_neg (a b : Int) : jF a b < 0 ↔ a < b := by
 unfold jF
 split
 ·simp; omega
 ·split
  ·simp; omega
  ·simp; omega
theorem cmpV_zero (a b : Int) : jF a b = 0 ↔ a = b := by
 unfold jF
 split
 ·simp; omega
 ·split
  ·simp; omega
  ·simp; omega
theorem riseV_neg (p q : TP) : riseV p q < 0 ↔ befP p q := by
 unfold riseV befP
 simp only [zG]
 have h1 := cmpV_neg p.m q.m
 have h2 := cmpV_zero p.m q.m
 have h3 := cmpV_neg p.g q.g
 have h4 := cmpV_zero p.g q.g
 have h5 := cmpV_neg p.s q.s
 have h6 := cmpV_zero p.s q.s
 generalize jF p.m q.m = x at *
 generalize jF p.g q.g = y at *
 generalize jF p.s q.s = z at *
 by_cases hx : x = 0
 ·by_cases hy : y = 0
  ·by_cases hz : z = 0
   ·simp [hx, hy, hz]; omega
   ·simp [hx, hy, hz]; omega
  ·simp [hx, hy]; omega
 ·simp [hx]; omega
theorem befP_irrefl (p : TP) : ¬ befP p p := by unfold befP; omega
theorem befP_trans {p q r : TP} (h1 : befP p q) (h2 : befP q r) : befP p r := by unfold befP at *; omega
theorem befP_asymm {p q : TP} (h1 : befP p q) (h2 : befP q p) : False := by unfold befP at *; omega
theorem befP_total {p q : TP} (h : ¬ (p.g = q.g ∧ p.s = q.s)) (h1 : ¬ befP q p) : befP p q := by unfold befP at *; omega
def DistP (L : List TP) : Prop := L.Pairwise fun p q => ¬ (p.g = q.g ∧ p.s = q.s)
theorem DistP.perm {L M : List TP} (h : DistP L) (hp : L.Perm M) : DistP M :=
 (hp.pairwise_iff (fun h => fun e => h ⟨e.1.symm, e.2.symm⟩)).1 h
def Ord (L : List TP) : Prop := L.Pairwise befP
theorem Ord.eq {L M : List TP} (h1 : Ord L) (h2 : Ord M) (hp : L.Perm M) : L = M := by
 induction L generalizing M with
 | nil => exact hp.nil_eq
 | cons x L ih =>
  cases M with
  | nil => exact absurd hp.symm.nil_eq (by simp)
  | cons y M =>
   have hx : x ∈ y :: M := hp.mem_iff.1 (by simp)
   have hy : y ∈ x :: L := hp.mem_iff.2 (by simp)
   have hxy : x = y := by
    rcases List.mem_cons.1 hx with h | h
    ·exact h
    ·rcases List.mem_cons.1 hy with h' | h'
     ·exact h'.symm
     ·exact (befP_asymm ((List.pairwise_cons.1 h1).1 y h') ((List.pairwise_cons.1 h2).1 x h)).elim
   subst hxy
   rw [ih (List.pairwise_cons.1 h1).2 (List.pairwise_cons.1 h2).2 (List.Perm.cons_inv hp)]
def srt (L : List TP) : List TP := L.mergeSort fun p q => !decide (befP q p)
theorem srt_perm (L : List TP) : (srt L).Perm L := List.mergeSort_perm L _
theorem srt_len (L : List TP) : (srt L).length = L.length := (srt_perm L).length_eq
theorem srt_ord {L : List TP} (h : DistP L) : Ord (srt L) := by
 have h1 : (srt L).Pairwise fun p q => (!decide (befP q p)) = true := by
  refine List.pairwise_mergeSort ?_ ?_ L
  ·intro a b c h1 h2
   simp only [Bool.not_eq_true', decide_eq_false_iff_not] at *
   intro h3
   unfold befP at *
   omega
  ·intro a b
   simp only [Bool.or_eq_true, Bool.not_eq_true', decide_eq_false_iff_not]
   by_cases h : befP b a
   ·right; exact fun h' => befP_asymm h h'
   ·left; exact h
 have h2 : DistP (srt L) := h.perm (srt_perm L).symm
 exact (h1.and h2).imp (fun {p q} ⟨h3, h4⟩ => befP_total h4 (by simpa using h3))
theorem srt_eq {L M : List TP} (hM : Ord M) (hp : M.Perm L) (hd : DistP L) : M = srt L :=
 hM.eq (srt_ord hd) (hp.trans (srt_perm L).symm)
end
section
open Go.Shelf
def sortLay_ren : Go.Shelf.Ren := ⟨fun | 6 => 168 | 15 => 191 | 14 => 190 | 28 => 210 | 29 => 211 | 20 => 202 | 21 => 203 | 22 => 204 | 23 => 205 | 24 => 206 | 25 => 207 | 26 => 208 | 27 => 209 | 46 => 213 | 47 => 214 | 48 => 215 | 49 => 216 | 50 => 217 | 57 => 218 | n => n, fun | 22 => 23 | 24 => 79 | 25 => 188 | 3 => 3 | 39 => 208 | 0 => 0 | 53 => 225 | 55 => 227 | 4 => 4 | 46 => 219 | 45 => 218 | 50 => 86 | 5 => 5 | 9 => 9 | 66 => 228 | 70 => 232 | 76 => 234 | 77 => 127 | n => n, fun | n => n⟩
theorem sortLay : Go.Proofs.SlLaysF0.n6 Tryz.prog sortLay_ren := {
 mixed := by kernel_rfl
 f6 := ⟨Tryz.f168.name, by decide, Tryz.func168.trans (congrArg some (by kernel_rfl))⟩
 f14 := ⟨Tryz.f190.name, by decide, Tryz.func190.trans (congrArg some (by kernel_rfl))⟩
 f15 := Tryz.func191.trans (congrArg some (by kernel_rfl))
 f20 := ⟨Tryz.f202.name, by decide, Tryz.func202.trans (congrArg some (by kernel_rfl))⟩
 f21 := ⟨Tryz.f203.name, by decide, Tryz.func203.trans (congrArg some (by kernel_rfl))⟩
 f22 := ⟨Tryz.f204.name, by decide, Tryz.func204.trans (congrArg some (by kernel_rfl))⟩
 f23 := ⟨Tryz.f205.name, by decide, Tryz.func205.trans (congrArg some (by kernel_rfl))⟩
 f24 := ⟨Tryz.f206.name, by decide, Tryz.func206.trans (congrArg some (by kernel_rfl))⟩
 f25 := ⟨Tryz.f207.name, by decide, Tryz.func207.trans (congrArg some (by kernel_rfl))⟩
 f26 := ⟨Tryz.f208.name, by decide, Tryz.func208.trans (congrArg some (by kernel_rfl))⟩
 f27 := ⟨Tryz.f209.name, by decide, Tryz.func209.trans (congrArg some (by kernel_rfl))⟩
 f28 := Tryz.func210.trans (congrArg some (by kernel_rfl))
 f29 := Tryz.func211.trans (congrArg some (by kernel_rfl))
 f46 := ⟨Tryz.f213.name, by decide, Tryz.func213.trans (congrArg some (by kernel_rfl))⟩
 f47 := Tryz.func214.trans (congrArg some (by kernel_rfl))
 f48 := Tryz.func215.trans (congrArg some (by kernel_rfl))
 f49 := ⟨Tryz.f216.name, by decide, Tryz.func216.trans (congrArg some (by kernel_rfl))⟩
 f50 := ⟨Tryz.f217.name, by decide, Tryz.func217.trans (congrArg some (by kernel_rfl))⟩
 f57 := ⟨Tryz.f218.name, by decide, Tryz.func218.trans (congrArg some (by kernel_rfl))⟩
 t0 := Tryz.underlying0
 a0 := Tryz.isAgg0
 z0 := Tryz.sizeOf0
 v0 := Tryz.zeroValue0
 t3 := Tryz.underlying3
 a3 := Tryz.isAgg3
 z3 := Tryz.sizeOf3
 v3 := Tryz.zeroValue3
 t4 := Tryz.underlying4
 a4 := Tryz.isAgg4
 z4 := Tryz.sizeOf4
 v4 := Tryz.zeroValue4
 t5 := Tryz.underlying5
 a5 := Tryz.isAgg5
 z5 := Tryz.sizeOf5
 v5 := Tryz.zeroValue5
 t9 := Tryz.underlying9
 a9 := Tryz.isAgg9
 z9 := Tryz.sizeOf9
 v9 := Tryz.zeroValue9
 t22 := Tryz.underlying23
 a22 := Tryz.isAgg23
 z22 := Tryz.sizeOf23
 v22 := Tryz.zeroValue23
 t25 := Tryz.underlying188
 a25 := Tryz.isAgg188
 z25 := Tryz.sizeOf188
 v25 := Tryz.zeroValue188
 t39 := Tryz.underlying208
 a39 := Tryz.isAgg208
 z39 := Tryz.sizeOf208
 v39 := Tryz.zeroValue208
 t45 := Tryz.underlying218
 a45 := Tryz.isAgg218
 z45 := Tryz.sizeOf218
 v45 := Tryz.zeroValue218
 t46 := Tryz.underlying219
 a46 := Tryz.isAgg219
 z46 := Tryz.sizeOf219
 v46 := Tryz.zeroValue219
 t50 := Tryz.underlying86
 a50 := Tryz.isAgg86
 z50 := Tryz.sizeOf86
 v50 := Tryz.zeroValue86
 t53 := Tryz.underlying225
 a53 := Tryz.isAgg225
 z53 := Tryz.sizeOf225
 v53 := Tryz.zeroValue225
 t55 := Tryz.underlying227
 a55 := Tryz.isAgg227
 z55 := Tryz.sizeOf227
 v55 := Tryz.zeroValue227
 t66 := Tryz.underlying228
 a66 := Tryz.isAgg228
 z66 := Tryz.sizeOf228
 v66 := Tryz.zeroValue228
 t70 := Tryz.underlying232
 a70 := Tryz.isAgg232
 z70 := Tryz.sizeOf232
 v70 := Tryz.zeroValue232
 t76 := Tryz.underlying234
 a76 := Tryz.isAgg234
 z76 := Tryz.sizeOf234
 v76 := Tryz.zeroValue234
 t77 := Tryz.underlying127
 a77 := Tryz.isAgg127
 z77 := Tryz.sizeOf127
 v77 := Tryz.zeroValue127 }
end
section
open Go.RowKit
def dupFrom : List TP → List TP → Bool
 | _, [] => false
 | A, p :: L => xL A p || dupFrom (A ++ [p]) L
def dupB (L : List TP) : Bool := dupFrom [] L
def cntN (L : List TP) (g s : Nat) : Nat := L.countP fun p => p.g == (g : Int) && p.s == (s : Int)
theorem cntN_snoc (L : List TP) (p : TP) (g s : Nat) : cntN (L ++ [p]) g s = cntN L g s + if (p.g == (g : Int) && p.s == (s : Int)) = true then 1 else 0 := by
 rw [cntN, List.countP_append]
 simp [List.countP_cons, cntN]
theorem cntN_le (L : List TP) (g s : Nat) : cntN L g s ≤ L.length := List.countP_le_length
theorem twice_cnt (L : List TP) (p : TP) (g s : Nat) (hg : p.g = (g : Int)) (hs : p.s = (s : Int)) : xL L p = decide (0 < cntN L g s) := by
 rw [xL, cntN, hg, hs]
 cases h : L.any fun x => x.g == (g : Int) && x.s == (s : Int)
 ·have h2 : L.countP (fun p => p.g == (g : Int) && p.s == (s : Int)) = 0 := by
   rw [List.countP_eq_zero]
   intro x hx
   have := List.any_eq_false.1 h x hx
   simpa using this
  rw [h2]
  rfl
 ·have h2 : 0 < L.countP (fun p => p.g == (g : Int) && p.s == (s : Int)) := by
   rw [List.countP_pos_iff]
   obtain ⟨x, hx, hp⟩ := List.any_eq_true.1 h
   exact ⟨x, hx, hp⟩
  simp [h2]
theorem cell_set_neF {w : World} {p q : Addr} {u v : Value} (hne : p.block ≠ q.block) (h : w.cell? q = some v) : (w.setCell p u).cell? q = some v := by
 rw [World.cell?_setCell_other]
 ·exact h
 ·intro e
  exact hne (by rw [e])
theorem dropFrom_cons (A : List TP) (p : TP) (L : List TP) : dupFrom A (p :: L) = (xL A p || dupFrom (A ++ [p]) L) := rfl
theorem zeroC : Tryz.zeroCells205 = Array.replicate 300 (.int .i64 0) := by kernel_rfl
def Tab (w : World) (B : Nat) (M : List TP) : Prop := ∃ cs : Array Value, w.heap[B]? = some (.cells cs 205) ∧ cs.size = 300 ∧ ∀ g s : Nat, g < 3 → s < 100 → cs[g * 100 + s]? = some (.int .i64 (cntN M g s))
theorem Tab.below {w w' : World} {B : Nat} {M : List TP} (h : Tab w B M) (hb : Below w.heap.size w w') : Tab w' B M := by
 obtain ⟨cs, h1, h2⟩ := h
 refine ⟨cs, ?_, h2⟩
 have hlt : B < w.heap.size := (Array.getElem?_eq_some_iff.1 h1).1
 rw [hb.block _ hlt]
 exact h1
theorem Tab.cell {w : World} {B : Nat} {M : List TP} (h : Tab w B M) {g s : Nat} (hg : g < 3) (hs : s < 100) : w.cell? ⟨B, g * 100 + s, none⟩ = some (.int .i64 (cntN M g s)) ∧ w.frozen? ⟨B, g * 100 + s, none⟩ = false := by
 obtain ⟨cs, h1, h2, h3⟩ := h
 exact ⟨by rw [cell_of_row _ _ _ _ _ _ h1]; exact h3 g s hg hs, frozen_of_row _ _ _ _ _ h1⟩
theorem Tab.more {w : World} {B : Nat} {M : List TP} (h : Tab w B M) {g s : Nat} {p : TP} (hg : g < 3) (hs : s < 100) (eg : p.g = (g : Int)) (es : p.s = (s : Int)) :
  Tab (w.setCell ⟨B, g * 100 + s, none⟩ (.int .i64 ((cntN M g s : Int) + 1))) B (M ++ [p]) := by
 obtain ⟨cs, h1, h2, h3⟩ := h
 refine ⟨_, heap_setCell_same w B _ cs _ _ h1, by simpa using h2, fun g' s' hg' hs' => ?_⟩
 rw [Array.getElem?_setIfInBounds, cntN_snoc, eg, es]
 by_cases he : g = g' ∧ s = s'
 ·obtain ⟨rfl, rfl⟩ := he
  rw [if_pos rfl, if_pos (by omega)]
  simp
 ·rw [if_neg (by omega), h3 g' s' hg' hs', if_neg (by simp; omega)]
  simp
theorem twice_any (o : Option Addr) (cap : Nat) (L : List TP) (w : World) (hL : zI w o L) (hlen : L.length ≤ 72) (hr : ∀ p ∈ L, (0 ≤ p.g ∧ p.g ≤ 2) ∧ (1 ≤ p.s ∧ p.s ≤ 99)) :
  Calls Tryz.prog 167 #[.slice o L.length cap] w fun x w' => x = .returned (.bool (dupB L)) ∧ Below w.heap.size w w' := by
 have HL := zA hL
 have HR0 := zA hr
 obtain ⟨R, hR⟩ : ∃ R, R = dupB L := ⟨_, rfl⟩
 rw [← hR]
 have HR := zA hR
 have HB0 := zA ((Below.refl w.heap.size w).alloc (Nat.le_refl _) (.cells Tryz.zeroCells205 205))
 have HT0 : Hid (Tab (w.alloc (.cells Tryz.zeroCells205 205)) w.heap.size []) := by
  refine ⟨_, heap_alloc_new w _, by rw [zeroC]; simp, fun g s hg hs => ?_⟩
  rw [zeroC, Array.getElem?_replicate, if_pos (by omega)]
  rfl
 clear hL hr hR
 go_enter Tryz.func167, Tryz.ntmps167
 go_wp2_with fail
 generalize w.alloc _ = w0 at *
 go_loopw [8] (fun j wr => ∃ (q : Nat), q ≤ L.length ∧ j = .int .i64 q ∧ Hid (dupB L = dupFrom (L.take q) (L.drop q)) ∧ Hid (Tab wr w.heap.size (L.take q)) ∧ Hid (Below w.heap.size w wr)) (fun j _ => L.length - (intOf j).toNat)
 case atStart => exact ⟨0, Nat.zero_le _, rfl, by show _ = _; simp [dupB], HT0, HB0⟩
 case round =>
  obtain ⟨q, hq, rfl, hD, hT, hB⟩ := hrel
  by_cases hgo : q < L.length
  ·obtain ⟨p, hp⟩ : ∃ p, L[q]? = some p := ⟨L[q], by simp [hgo]⟩
   obtain ⟨A, rfl, c0, c1, c2, c3, c4⟩ := (HL.out.below hB.out) q p hp
   have hrp := HR0.out p (List.mem_of_getElem? hp)
   have hD' := hD.out
   rw [dropP hp, dropFrom_cons, show L.take q ++ [p] = L.take (q + 1) by rw [List.take_add_one, hp]; rfl] at hD'
   have hM : L.take (q + 1) = L.take q ++ [p] := by rw [List.take_add_one, hp]; rfl
   have hcl : cntN (L.take q) p.g.toNat p.s.toNat ≤ 72 := Nat.le_trans (cntN_le _ _ _) (by simp; omega)
   obtain ⟨pa, pg, ps, pm, pz⟩ := p
   simp only [] at hrp c0 c1 c2 c3 c4
   obtain ⟨g, rfl⟩ : ∃ g : Nat, pg = (g : Int) := ⟨pg.toNat, by omega⟩
   obtain ⟨s, rfl⟩ : ∃ s : Nat, ps = (s : Int) := ⟨ps.toNat, by omega⟩
   simp only [Int.toNat_natCast] at hcl
   rw [twice_cnt (L.take q) ⟨pa, g, s, pm, pz⟩ g s rfl rfl] at hD'
   have hwlt : Hid (w.heap.size < wr.heap.size) := by
    obtain ⟨cs, h1, -⟩ := hT.out
    exact (Array.getElem?_eq_some_iff.1 h1).1
   have hg3 : g < 3 := by omega
   have hs100 : s < 100 := by omega
   have HD := zA hD'
   have HM := zA hM
   clear hD hD' hM hp
   go_upto_region 5 with fail
   have HG := zA ((zL.nil wr).more (.cells #[.int .i64 pa, .int .i64 (g : Int), .int .i64 (s : Int), .int .i64 pm, .int .i64 pz] 79) (by simp))
   have HTa := zA (hT.out.below HG.out.2.2)
   have HBa := zA (hB.out.trans (HG.out.2.2.mono hB.out.size))
   clear hT hB c0 c1 c2 c3 c4
   generalize wr.alloc _ = wa at *
   refine zJ (fun w' => w'.cell? ⟨wr.heap.size, 1, none⟩ = some (.int .i64 (g : Int)) ∧ w'.cell? ⟨wr.heap.size, 2, none⟩ = some (.int .i64 (s : Int))) [0, 1, 2, 3, 4, 5, 8] 4 (by rfl) (by kernel_rfl) (by kernel_rfl) (by kernel_rfl) (fun c d v a w h => by cases d <;> exact h) ?_ ?_
   ·exact ⟨(HG.out.on (Below.refl _ _).drew).cell 0 1 _ _ _ _ rfl rfl rfl, (HG.out.on (Below.refl _ _).drew).cell 0 2 _ _ _ _ rfl rfl rfl⟩
   refine zB (.pointer (some ⟨wr.heap.size, 1, none⟩)) rfl rfl (fun w' _ => ?_) ?_
   ·go_simp
   refine zB (.int .i64 g) rfl rfl (fun w' hS => ?_) ?_
   ·obtain ⟨k1, k2⟩ := hS
    go_simp
   refine zB (.pointer (some ⟨wr.heap.size, 2, none⟩)) rfl rfl (fun w' _ => ?_) ?_
   ·go_simp
   refine zB (.int .i64 s) rfl rfl (fun w' hS => ?_) ?_
   ·obtain ⟨k1, k2⟩ := hS
    go_simp
   refine zB (.pointer (some ⟨w.heap.size, g * 100, none⟩)) rfl rfl (fun w' _ => ?_) ?_
   ·go_simp
    intro h; omega
   refine zB (.pointer (some ⟨w.heap.size, g * 100 + s, none⟩)) rfl rfl (fun w' _ => ?_) ?_
   ·go_simp
    intro h; omega
   refine zB (.pointer (some ⟨w.heap.size, g * 100, none⟩)) rfl rfl (fun w' _ => ?_) ?_
   ·go_simp
    intro h; omega
   refine zE ?_
   have HGd := zA (HG.out.on (Below.refl _ _).drew)
   have HTd := zA (HTa.out.below (Below.refl _ _).drew)
   have HBd := zA (HBa.out.drew)
   clear HG HTa HBa
   generalize World.drew _ = wb at *
   obtain ⟨k0, f0⟩ := HTd.out.cell hg3 hs100
   have hlt := World.block_lt_of_cell? wb _ k0
   have hsz := HGd.out.2.1
   simp only [List.length_append, List.length_cons, List.length_nil] at hsz
   have hwl : w.heap.size < wr.heap.size := by
    have h1 := hwlt.out
    exact h1
   have hwr : IntKind.i64.wrap ((cntN (L.take q) g s : Int) + 1) = (cntN (L.take q) g s : Int) + 1 := by rw [IntKind.wrap_i64]; omega
   have HX := zA (And.intro (HGd.out.cell 0 1 wr.heap.size _ _ _ rfl rfl rfl) (HGd.out.cell 0 2 wr.heap.size _ _ _ rfl rfl rfl))
   have hgI : (g : Int) < 3 := by omega
   have hsI : (s : Int) < 100 := by omega
   clear HGd
   refine oR 6 rfl rfl fun K hK => ?_
   go_simp
   refine hK _ _ HX.out ?_
   clear hK K
   refine oR 7 rfl rfl fun K hK => ?_
   go_simp
   refine hK _ _ HX.out ?_
   clear hK K
   refine oR 9 rfl rfl fun K hK => ?_
   go_simp
   refine hK _ _ HX.out ?_
   clear hK K
   refine oR 10 rfl rfl fun K hK => ?_
   go_simp
   have HTe := zA (HTd.out.more (p := ⟨pa, g, s, pm, pz⟩) hg3 hs100 rfl rfl)
   rw [← HM.out] at HTe
   have HBe := zA (HBd.out.setCell (p := ⟨w.heap.size, g * 100 + s, none⟩) (Nat.le_refl _) (.int .i64 ((cntN (L.take q) g s : Int) + 1)))
   have HXe := zA (And.intro (cell_set_neF (p := ⟨w.heap.size, g * 100 + s, none⟩) (q := ⟨wr.heap.size, 1, none⟩) (u := .int .i64 ((cntN (L.take q) g s : Int) + 1)) (by simp; omega) HX.out.1) (cell_set_neF (p := ⟨w.heap.size, g * 100 + s, none⟩) (q := ⟨wr.heap.size, 2, none⟩) (u := .int .i64 ((cntN (L.take q) g s : Int) + 1)) (by simp; omega) HX.out.2))
   refine hK _ _ HXe.out ?_
   clear hK K HX HTd HBd k0 f0 hlt hsz
   generalize wb.setCell _ _ = wc at *
   refine wpAnyH_done (by kernel_rfl) ?_ _
   obtain ⟨x1, x2⟩ := HXe.out
   have k0 := (HTe.out.cell hg3 hs100).1
   rw [HM.out, cntN_snoc, if_pos (by simp)] at k0
   generalize hc : cntN (L.take q) g s = c at *
   clear hc
   have k0' : wc.cell? ⟨w.heap.size, g * 100 + s, none⟩ = some (.int .i64 ((c : Int) + 1)) := by rw [k0]; simp
   clear k0
   by_cases hc0 : 0 < c
   ·have HR' := zA (show R = true by rw [HR.out, HD.out]; simp [hc0])
    have hc1 : (1 : Int) < (c : Int) + 1 := by omega
    clear HD
    go_wp2_with fail
    go_quiet (fail)
    go_wp2_with fail
    go_ret
    exact ⟨by rw [HR'.out]; rfl, below_drewN HBe.out _⟩
   ·have HD' := zA (show dupB L = dupFrom (L.take (q + 1)) (L.drop (q + 1)) by rw [HD.out]; simp [hc0])
    have hc1 : ¬ (1 : Int) < (c : Int) + 1 := by omega
    clear HD
    go_wp2_with fail
    go_quiet (fail)
    go_wp2_with fail
    exact ⟨⟨q + 1, by omega, by simp, HD', HTe.out.below (below_drewN (Below.refl _ _) _), below_drewN HBe.out _⟩, by simp [intOf]; omega⟩
  ·have hD' := hD.out
   rw [List.drop_of_length_le (by omega)] at hD'
   have HR' := zA (show R = false by rw [HR.out, hD']; rfl)
   clear hD'
   go_wp2_with fail
   go_ret
   exact ⟨by rw [HR'.out]; rfl, hB.out⟩
open Go.Sort (grow SWO PermIn SortedIn HoldsK size_flatK get_flatK holdsK_grow holdsK_putRowK holdsK_ahead putRowK)
instance : Inhabited TP := ⟨⟨0, 0, 0, 0, 0⟩⟩
def encP (p : TP) : List Value := [.int .i64 p.a, .int .i64 p.g, .int .i64 p.s, .int .i64 p.m, .int .i64 p.z]
theorem ltOf_rise (p q : TP) : ltOf riseV p q = decide (befP p q) := by
 rw [ltOf, decide_eq_decide]
 exact riseV_neg p q
theorem swoP : SWO (ltOf riseV) where
 irrefl x := by rw [ltOf_rise]; simpa using befP_irrefl x
 trans x y z h1 h2 := by
  rw [ltOf_rise, decide_eq_true_eq] at *
  exact befP_trans h1 h2
 ntrans x y z h1 h2 := by
  rw [ltOf_rise, decide_eq_false_iff_not] at *
  unfold befP at *
  omega
theorem cmpLaysP (blk off size : Nat) (w : World) : CmpLays Tryz.prog 169 #[] encP 5 riseV blk off size w :=
 fun _ _ _ _ x y => rise_any x y _
theorem add0P (g j : Nat) : (⟨g, 0, none⟩ : Addr).add j = ⟨g, j, none⟩ := by
 by_cases h : j = 0 <;> simp [Addr.add, h]
theorem holdsP {w : World} {base g c : Nat} {L : List TP} (h : w.ownsRow base 79 5 (.slice (some ⟨g, 0, none⟩) L.length c) L.length (yA L)) : HoldsK encP 5 w g 0 L.toArray := by
 intro j hj
 rw [size_flatK] at hj
 have hj' : j < L.length * 5 := by simpa using hj
 rw [get_flatK _ _ _ _ hj, Nat.zero_add, h.cellAt j hj']
 refine ⟨?_, h.frozenAt j⟩
 obtain ⟨p, hp⟩ : ∃ p, L[j / 5]? = some p := ⟨L[j / 5]'(by omega), by simp⟩
 have e := cellsP_get L _ p hp (j % 5) (by omega)
 rw [show j / 5 * 5 + j % 5 = j by omega] at e
 have hd : L.toArray[j / 5]! = p := by
  rw [getElem!_pos _ _ (by simp; omega)]
  simpa using (List.getElem?_eq_some_iff.1 hp).2
 rw [e, hd]
 have h5 : j % 5 < 5 := by omega
 generalize j % 5 = r at *
 match r, h5 with
 | 0, _ | 1, _ | 2, _ | 3, _ | 4, _ => rfl
theorem sortP_any (L : List TP) (base g c : Nat) (w : World) (hown : w.ownsRow base 79 5 (.slice (some ⟨g, 0, none⟩) L.length c) L.length (yA L)) (hlen : L.length ≤ 100) :
  Calls Tryz.prog 168 #[.slice (some ⟨g, 0, none⟩) L.length c, .func (.func 169) #[] #[]] w fun e w' =>
   e = .returned (.tuple #[]) ∧ (∃ M : List TP, M.Perm L ∧ (M.Pairwise fun p q => ¬ befP q p) ∧ zI w' (some ⟨g, 0, none⟩) M) ∧ Below base w w' := by
 have eg : ∀ args w, (callFunc 169 args).run Tryz.prog w = .ok (.enter 169 args) w := enters_of Tryz.func169 (by kernel_rfl) rfl
 obtain ⟨hbg, hgl⟩ := hown.lt g rfl
 have hH := holdsP hown
 have hcon := AnyQ.slices_SortFunc sortLay 5 Tryz.isAgg79 Tryz.sizeOf79 encP (fun _ => rfl) (fun x v hv => by simp [encP] at hv; rcases hv with rfl | rfl | rfl | rfl | rfl <;> rfl) riseV swoP 169 #[] g 0 c L.toArray w eg (cmpLaysP g 0 L.toArray.size w) hH hgl (by simp; omega)
 change Calls Tryz.prog 168 _ _ _ at hcon
 rw [show L.toArray.size = L.length by simp] at hcon
 refine hcon.mono ?_
 rintro e w' ⟨rfl, d', n, os, ⟨hs, -, hp⟩, hso, rfl⟩
 have hs' : d'.size = L.length := by simpa using hs
 refine ⟨rfl, ⟨d'.toList, ?_, ?_, ?_⟩, ?_⟩
 ·have e1 : d'.extract 0 L.length = d' := by rw [← hs']; simp
  have e2 : L.toArray.extract 0 L.length = L.toArray := by simp
  rw [e1, e2] at hp
  simpa using hp
 ·rw [List.pairwise_iff_getElem]
  intro i j hi hj hij
  have hi' : i < d'.size := by simpa using hi
  have hj' : j < d'.size := by simpa using hj
  have h1 := hso i j (Nat.zero_le _) hij (by omega)
  rw [ltOf_rise, decide_eq_false_iff_not, getElem!_pos d' i hi', getElem!_pos d' j hj'] at h1
  simpa using h1
 ·have h2 : HoldsK encP 5 (sortWorldK encP 5 w g 0 n d' os) g 0 d' := by
   unfold sortWorldK
   refine holdsK_grow encP 5 _ _ _ _ _ (by simpa [putRowK, Go.Sort.putRow, Go.Sort.mapBlock, Go.Sort.ahead] using hgl) ?_
   exact holdsK_putRowK encP 5 _ _ _ L.toArray d' (holdsK_ahead encP 5 w n g 0 L.toArray hH) (by simpa using hs)
  intro i p hp'
  refine ⟨_, rfl, ?_⟩
  have hi : i < d'.size := by
   have := (List.getElem?_eq_some_iff.1 hp').1
   simpa using this
  have hd : d'[i]! = p := by
   rw [getElem!_pos d' i hi]
   simpa using (List.getElem?_eq_some_iff.1 hp').2
  have hc := fun k hk => (h2.cell (i := i) (c := k) hi hk).1
  rw [hd] at hc
  simp only [Nat.zero_add] at hc
  rw [add0P]
  exact ⟨hc 0 (by omega), hc 1 (by omega), hc 2 (by omega), hc 3 (by omega), hc 4 (by omega)⟩
 ·unfold sortWorldK
  refine ⟨rfl, rfl, rfl, ?_, ?_⟩
  ·simp [grow, putRowK, Go.Sort.putRow, Go.Sort.mapBlock, Go.Sort.ahead]
  ·intro k hk
   simp only [grow, putRowK, Go.Sort.putRow, Go.Sort.mapBlock, Go.Sort.ahead]
   rw [Array.getElem?_append_left (by simp; omega), Array.getElem?_modify, if_neg (by omega)]
theorem dupFrom_false (A L : List TP) : dupFrom A L = false ↔ (DistP L ∧ ∀ a ∈ A, ∀ p ∈ L, ¬ (a.g = p.g ∧ a.s = p.s)) := by
 induction L generalizing A with
 | nil => simp [dupFrom, DistP]
 | cons p L ih =>
  rw [dropFrom_cons, Bool.or_eq_false_iff, ih]
  have h1 : xL A p = false ↔ ∀ a ∈ A, ¬ (a.g = p.g ∧ a.s = p.s) := by
   rw [xL, List.any_eq_false]
   simp
  rw [h1]
  constructor
  ·rintro ⟨h2, h3, h4⟩
   refine ⟨List.pairwise_cons.2 ⟨fun q hq => h4 p (by simp) q hq, h3⟩, fun a ha q hq => ?_⟩
   rcases List.mem_cons.1 hq with rfl | hq
   ·exact h2 a ha
   ·exact h4 a (by simp [ha]) q hq
  ·rintro ⟨h2, h3⟩
   obtain ⟨h4, h5⟩ := List.pairwise_cons.1 h2
   refine ⟨fun a ha => h3 a ha p (by simp), h5, fun a ha q hq => ?_⟩
   rcases List.mem_append.1 ha with ha | ha
   ·exact h3 a ha q (by simp [hq])
   ·obtain rfl : a = p := by simpa using ha
    exact h4 q hq
theorem dupB_false (L : List TP) : dupB L = false ↔ DistP L := by
 rw [dupB, dupFrom_false]
 simp
theorem firstE_map_zero {L : List TP} : zG (L.map yK) = 0 ↔ ∀ p ∈ L, yK p = 0 := by
 induction L with
 | nil => simp [zG]
 | cons p L ih =>
  rw [List.map_cons, zG]
  by_cases h : yK p = 0
  ·rw [if_pos h, ih]
   simp [h]
  ·rw [if_neg h]
   simp [h]
theorem chkT_range {p : TP} (h : yK p = 0) : (0 ≤ p.g ∧ p.g ≤ 2) ∧ (1 ≤ p.s ∧ p.s ≤ 99) := by
 rw [yK, vB] at h
 by_cases h1 : (wi p.a 1 9999 && wi p.g 0 2 && wi p.s 1 99 && wi p.m 0 9999) = false
 ·rw [if_pos h1] at h; omega
 ·simp only [Bool.not_eq_false, Bool.and_eq_true, yO] at h1
  exact ⟨h1.1.1.2, h1.1.2⟩
def ordE (L : List TP) : Int := if 72 < L.length then 2 else if zG (L.map yK) = 0 then (if dupB L = true then 6 else 0) else zG (L.map yK)
def ordR (L : List TP) : List TP := if ordE L = 0 then srt L else []
theorem ordE_ways (L : List TP) : (72 < L.length ∧ ordE L = 2 ∧ ordR L = []) ∨ (L.length ≤ 72 ∧ (zG (L.map yK) != 0) = true ∧ ordE L = zG (L.map yK) ∧ ordR L = []) ∨ (L.length ≤ 72 ∧ zG (L.map yK) = 0 ∧ dupB L = true ∧ ordE L = 6 ∧ ordR L = []) ∨
  (L.length ≤ 72 ∧ zG (L.map yK) = 0 ∧ dupB L = false ∧ ordE L = 0 ∧ ordR L = srt L) := by
 by_cases h1 : 72 < L.length
 ·have e : ordE L = 2 := by rw [ordE, if_pos h1]
  left; exact ⟨h1, e, by rw [ordR, e]; rfl⟩
 ·right
  by_cases h2 : zG (L.map yK) = 0
  ·right
   cases h3 : dupB L
   ·have e : ordE L = 0 := by rw [ordE, if_neg h1, if_pos h2, h3]; rfl
    right; exact ⟨by omega, h2, rfl, e, by rw [ordR, e]; rfl⟩
   ·have e : ordE L = 6 := by rw [ordE, if_neg h1, if_pos h2, h3]; rfl
    left; exact ⟨by omega, h2, rfl, e, by rw [ordR, e]; rfl⟩
  ·have e : ordE L = zG (L.map yK) := by rw [ordE, if_neg h1, if_neg h2]
   left; exact ⟨by omega, by simpa using h2, e, by rw [ordR, e, if_neg h2]⟩
theorem ordE_right {L : List TP} (h : ordE L = 0) : L.length ≤ 72 ∧ (∀ p ∈ L, yK p = 0) ∧ DistP L := by
 rcases ordE_ways L with ⟨-, h2, -⟩ | ⟨-, h1, h2, -⟩ | ⟨-, -, -, h2, -⟩ | ⟨h1, h2, h3, -⟩
 ·omega
 ·rw [h2] at h
  rw [h] at h1
  simp at h1
 ·omega
 ·exact ⟨h1, firstE_map_zero.1 h2, (dupB_false L).1 h3⟩
theorem clonePO_any (L : List TP) (A : Addr) (cap : Nat) (w : World) (hL : zI w (some A) L) (hlen : L.length ≤ 72) :
  Calls Tryz.prog 73 #[.slice (some A) L.length cap] w fun e w' => (∃ g c, e = .returned (.slice (some ⟨g, 0, none⟩) L.length c) ∧ w.heap.size ≤ g ∧ L.length ≤ c ∧ w'.ownsRow w.heap.size 79 5 (.slice (some ⟨g, 0, none⟩) L.length c) L.length (yA L)) ∧ Below w.heap.size w w' := by
 obtain ⟨i0, hi, hz0, hz1, hz2⟩ := info_parts info32
 have q : ∀ (w : World) (a : Option Addr) (n c n' c' : Nat), (binOp .eql 23 (.slice a n c) (.slice none n' c')).run Tryz.prog w = .ok (.bool a.isNone) w := fun w a n c n' c' => Lib.run_eql_slice_nil w _ _ a n c n' c' Tryz.underlying23
 have HN := zA (taps_cells (hL.below ((Below.refl w.heap.size w).alloc (Nat.le_refl _) (.cells #[] 79))))
 have HO := zA (World.ownsRow_made (base := w.heap.size) (e := 79) (size := 5) w #[] 0 (Nat.le_refl _) (by decide) rfl)
 clear hL
 go_enter Tryz.func73, Tryz.ntmps73
 go_wp2_with (at_builtin; refine wpList_append_own _ rfl _ _ 23 rfl w.heap.size 79 i0 _ 5 40 Tryz.underlying23 hi hz0 hz1 hz2 rfl (by decide) _ 0 _ rfl HO.out A L.length cap (yA L) rfl (cellsP_len L) HN.out (oneP L) (by unfold maxLen; omega) (by omega) (by simp) ?_; intro v1 w1 hown1 hgrow1 hnil)
 go_ret
 refine ⟨?_, ((Below.refl w.heap.size w).alloc (Nat.le_refl _) _).grown hgrow1 (by simp) (fun k hk => (HO.out.lt k hk).1)⟩
 have hn : 0 + L.length = L.length := by omega
 rw [hn] at hown1
 rcases hown1.2 with ⟨h0, -⟩ | ⟨g, c, cur, rfl, hg, -, hc, -⟩
 ·have := (hnil.1 h0).1
  simp [Act.eval] at this
 ·exact ⟨g, c, rfl, hg, hc, hown1⟩
theorem xX (w : World) : zR w (.slice none 0 0) [] := ⟨none, 0, rfl, fun i p h => by simp at h, by simp, fun _ => rfl⟩
theorem xI (B : Nat) : zK B (.slice none 0 0) := fun k hk => by simp [Value.ownBlock] at hk
theorem cloneNil (w : World) : Calls Tryz.prog 73 #[.slice none 0 0] w fun e w' => e = .returned (.slice none 0 0) ∧ w' = w := by
 have q : ∀ (w : World) (a : Option Addr) (n c n' c' : Nat), (binOp .eql 23 (.slice a n c) (.slice none n' c')).run Tryz.prog w = .ok (.bool a.isNone) w := fun w a n c n' c' => Lib.run_eql_slice_nil w _ _ a n c n' c' Tryz.underlying23
 go_enter Tryz.func73, Tryz.ntmps73
 go_wp2
 go_ret
 exact ⟨rfl, rfl⟩
theorem sortNil (w : World) : Calls Tryz.prog 168 #[.slice none 0 0, .func (.func 169) #[] #[]] w fun e w' => e = .returned (.tuple #[]) ∧ w' = w := by
 have h := AnyF.slices_SortFunc_none sortLay none 0 (.func (.func 169) #[] #[]) w
 change Calls Tryz.prog 168 _ _ _ at h
 exact h
theorem order_any (o : Option Addr) (cap : Nat) (L : List TP) (w : World) (hL : zI w o L) (hlen : L.length ≤ 9223372036854775807) (hnone : o = none → cap = 0) :
  Calls Tryz.prog 141 #[.slice o L.length cap] w fun e w' => (∃ o' n c', e = .returned (.tuple #[.slice o' n c', .int .i64 (ordE L)]) ∧ zR w' (.slice o' n c') (ordR L) ∧ zK w.heap.size (.slice o' n c')) ∧ Below w.heap.size w w' := by
 have HL := zA hL
 have HC := zA (fun W (h : zI W o L) => eachC_any o cap L W h hlen)
 rcases ordE_ways L with ⟨h1, h2, h3⟩ | ⟨h1, h4, h2, h3⟩ | ⟨h1, h4, h5, h2, h3⟩ | ⟨h1, h4, h5, h2, h3⟩
 ·rw [h2, h3]
  have h1' : (72 : Int) < (L.length : Int) := by omega
  clear hL h1 h2 h3
  go_enter Tryz.func141, Tryz.ntmps141
  go_wp2_with fail
  go_ret2
  exact ⟨⟨_, _, _, rfl, xX _, xI _⟩, Below.refl _ _⟩
 ·rw [h2, h3]
  have h1' : ¬ (72 : Int) < (L.length : Int) := by omega
  clear hL h1 h2 h3
  generalize zG (L.map yK) = E at *
  go_enter Tryz.func141, Tryz.ntmps141
  go_wp2_with fail
  refine (HC.out _ HL.out).mono ?_
  rintro e w1 ⟨rfl, hb⟩
  have HB := zA hb
  clear hb
  go_wp2_with fail
  go_ret2
  exact ⟨⟨_, _, _, rfl, xX _, xI _⟩, HB.out⟩
 ·have HT := zA (fun W (h : zI W o L) => twice_any o cap L W h h1 (fun p hp => chkT_range (firstE_map_zero.1 h4 p hp)))
  rw [h5] at HT
  rw [h4] at HC
  rw [h2, h3]
  have h1' : ¬ (72 : Int) < (L.length : Int) := by omega
  clear hL h1 h2 h3 h4 h5
  go_enter Tryz.func141, Tryz.ntmps141
  go_wp2_with fail
  refine (HC.out _ HL.out).mono ?_
  rintro e w1 ⟨rfl, hb⟩
  have HB := zA hb
  have HL1 := zA (HL.out.below hb)
  clear hb
  go_wp2_with fail
  refine (HT.out _ HL1.out).mono ?_
  rintro e w2 ⟨rfl, hb⟩
  have HB2 := trR HB hb
  clear hb
  go_wp2_with fail
  go_ret2
  exact ⟨⟨_, _, _, rfl, xX _, xI _⟩, HB2.out⟩
 ·have HT := zA (fun W (h : zI W o L) => twice_any o cap L W h h1 (fun p hp => chkT_range (firstE_map_zero.1 h4 p hp)))
  rw [h5] at HT
  rw [h4] at HC
  rw [h2]
  have hd := (dupB_false L).1 h5
  have h1' : ¬ (72 : Int) < (L.length : Int) := by omega
  clear h2 h4 h5
  cases o with
  | none =>
   have hL0 : L = [] := by
    cases L with
    | nil => rfl
    | cons x L => obtain ⟨b, hb, -⟩ := hL 0 x rfl; cases hb
   subst hL0
   obtain rfl := hnone rfl
   have hs0 : srt [] = [] := List.eq_nil_of_length_eq_zero (srt_len [])
   rw [h3, hs0]
   clear hL h3 hd hs0 h1
   go_enter Tryz.func141, Tryz.ntmps141
   go_wp2_with fail
   refine (HC.out _ HL.out).mono ?_
   rintro e w1 ⟨rfl, hb⟩
   have HB := zA hb
   have HL1 := zA (HL.out.below hb)
   clear hb
   go_wp2_with fail
   refine (HT.out _ HL1.out).mono ?_
   rintro e w2 ⟨rfl, hb⟩
   have HL2 := zA (HL1.out.below hb)
   have HB2 := trR HB hb
   clear hb
   go_wp2_with fail
   refine (cloneNil w2).mono ?_
   rintro e w3 ⟨rfl, hw3⟩
   obtain rfl := hw3.symm
   go_wp2_with fail
   refine (sortNil w2).mono ?_
   rintro e w3 ⟨rfl, hw3⟩
   obtain rfl := hw3.symm
   go_wp2_with fail
   go_ret2
   exact ⟨⟨_, _, _, rfl, xX _, xI _⟩, HB2.out⟩
  | some A =>
   have HK := zA (fun W (h : zI W (some A) L) => clonePO_any L A cap W h h1)
   have HD := zA hd
   have H3 := zA h3
   have hlL : L.length ≤ 100 := by omega
   clear hL hd h1 h3
   generalize ordR L = R at *
   go_enter Tryz.func141, Tryz.ntmps141
   go_wp2_with fail
   refine (HC.out _ HL.out).mono ?_
   rintro e w1 ⟨rfl, hb⟩
   have HB := zA hb
   have HL1 := zA (HL.out.below hb)
   clear hb
   go_wp2_with fail
   refine (HT.out _ HL1.out).mono ?_
   rintro e w2 ⟨rfl, hb⟩
   have HL2 := zA (HL1.out.below hb)
   have HB2 := trR HB hb
   clear hb
   go_wp2_with fail
   refine (HK.out _ HL2.out).mono ?_
   rintro e w3 ⟨⟨g, c, rfl, hg, hc, hown⟩, hb⟩
   have HO := zA hown
   have HB3 := trR HB2 hb
   have HG := zA (show w.heap.size ≤ g from Nat.le_trans HB2.out.size hg)
   have HCc := zA hc
   have HB23 := zA HB2.out.size
   clear hown hb hg hc
   go_wp2_with fail
   refine (sortP_any L w2.heap.size g c w3 HO.out hlL).mono ?_
   rintro e w4 ⟨rfl, ⟨M, hp, hs, hM⟩, hb4⟩
   have hord : Ord M := (hs.and (HD.out.perm hp.symm)).imp (fun ⟨h1, h2⟩ => befP_total h2 h1)
   have hMe : M = R := (srt_eq hord hp HD.out).trans H3.out.symm
   have hMl := hp.length_eq
   subst hMe
   have HM := zA hM
   have HB4 := zA (HB3.out.trans (hb4.mono HB23.out))
   have HLn := zA hMl
   clear hp hs hM hb4 hord hMl
   go_wp2_with fail
   go_ret2
   refine ⟨⟨_, _, _, rfl, ⟨some ⟨g, 0, none⟩, c, ?_, HM.out, ?_, fun h => by cases h⟩, fun k hk => by cases hk; exact HG.out⟩, HB4.out⟩
   ·rw [HLn.out]
   ·rw [HLn.out]; exact HCc.out
end
section
open Go.RowKit
def jJ (T : List TK) : List TP → List TP → List Int → List TP → Int × List TP × List Int × List TP
 | [], P, V, D => (0, P, V, D)
 | p :: L, P, V, D => if bldE T P V p = 0 then jJ T L (bldP T P V p) (bldV T P V p) (bldD T P V D p) else (bldE T P V p, P, V, D)
theorem Bld.below {w w' : World} {B base F : Nat} {T : List TK} {P : List TP} {V : List Int} {D : List TP} (h : Bld w B base F T P V D) (hb : Below w.heap.size w w') : Bld w' B base F T P V D := by
 obtain ⟨o1, c1, o2, c2, o3, c3, o4, c4, h1, h2, h3, h4, h5, h6⟩ := h
 exact ⟨o1, c1, o2, c2, o3, c3, o4, c4, zC h1 hb, h2.below hb, zF h3 hb, h4, Nat.le_trans h5 hb.size, h6⟩
theorem Bld.lt {w : World} {B base F : Nat} {T : List TK} {P : List TP} {V : List Int} {D : List TP} (h : Bld w B base F T P V D) : B < w.heap.size := by
 obtain ⟨o1, c1, o2, c2, o3, c3, o4, c4, h1, h2, h3, h4, h5, h6⟩ := h
 omega
theorem zI.keepB {w w' : World} {o : Option Addr} {L : List TP} {B : Nat} (h : zI w o L) (hb : Below B w w') (hlt : ∀ A, o = some A → L ≠ [] → A.block < B) : zI w' o L := fun i p hi => by
 obtain ⟨b, e, h5⟩ := h i p hi
 exact ⟨b, e, h5.below hb (by rw [yY]; exact hlt b e (fun h => by simp [h] at hi))⟩
theorem bld_keeps {T : List TK} {P : List TP} {V : List Int} {D : List TP} {p : TP} (h : bldE T P V p ≠ 0) : bldP T P V p = P ∧ bldV T P V p = V ∧ bldD T P V D p = D := by
 unfold bldE at h
 unfold bldP bldV bldD
 by_cases h1 : (zO T P V p).2 = 0
 ·rw [if_pos h1] at h; exact absurd rfl h
 ·rw [if_neg h1] at h
  by_cases h2 : (zO T P V p).1 = 3 ∨ (zO T P V p).2 = 5
  ·rw [if_pos h2] at h; exact absurd rfl h
  ·simp [h1, h2]
theorem bld_lens (T : List TK) (P : List TP) (V : List Int) (D : List TP) (p : TP) (n : Nat) (h1 : P.length ≤ n) (h2 : V.length ≤ n) (h3 : D.length ≤ n) : (bldP T P V p).length ≤ n + 1 ∧ (bldV T P V p).length ≤ n + 1 ∧ (bldD T P V D p).length ≤ n + 1 := by
 unfold bldP bldV bldD
 refine ⟨?_, ?_, ?_⟩
 ·split
  ·simp; omega
  ·omega
 ·split
  ·simp; omega
  ·omega
 ·split
  ·omega
  ·split
   ·simp; omega
   ·omega
theorem eachB_any (B base F : Nat) (T : List TK) (o : Option Addr) (cap : Nat) (L : List TP) (w : World) (hB : Bld w B base F T [] [] []) (hT : T.length ≤ 9223372036854775807) (hL : zI w o L) (hlt : ∀ A, o = some A → L ≠ [] → A.block < B) (hlen : L.length ≤ 72) :
  Calls Tryz.prog 143 #[.slice o L.length cap, .func (.func 144) #[.pointer (some ⟨B, 0, none⟩)] #[]] w fun x w' => (x = .returned (.int .i64 (jJ T L [] [] []).1) ∧ Bld w' B base F T (jJ T L [] [] []).2.1 (jJ T L [] [] []).2.2.1 (jJ T L [] [] []).2.2.2) ∧ Below B w w' := by
 have HL := zA hL
 have HLt := zA hlt
 have HB := zA hB
 have HT := zA hT
 obtain ⟨R, hR⟩ : ∃ R, R = jJ T L [] [] [] := ⟨_, rfl⟩
 rw [← hR]
 have HR := zA hR
 have hBw := hB.lt
 clear hL hlt hB hT hR
 go_enter Tryz.func143, Tryz.ntmps143
 go_wp2_with fail
 go_loopw [10] (fun j wr => ∃ (q : Nat) (P : List TP) (V : List Int) (D : List TP), q ≤ L.length ∧ j = .int .i64 q ∧ Hid (jJ T L [] [] [] = jJ T (L.drop q) P V D) ∧ Hid (P.length ≤ q ∧ V.length ≤ q ∧ D.length ≤ q) ∧ Hid (Bld wr B base F T P V D) ∧ Hid (Below B w wr)) (fun j _ => L.length - (intOf j).toNat)
 case atStart => exact ⟨0, [], [], [], Nat.zero_le _, rfl, by show _ = _; simp, ⟨by simp, by simp, by simp⟩, HB, Below.refl _ _⟩
 case round =>
  obtain ⟨q, P, V, D, hq, rfl, hE, hN, hBr, hW⟩ := hrel
  by_cases hgo : q < L.length
  ·obtain ⟨p, hp⟩ : ∃ p, L[q]? = some p := ⟨L[q], by simp [hgo]⟩
   obtain ⟨A, rfl, c0, c1, c2, c3, c4⟩ := (HL.out.keepB hW.out HLt.out) q p hp
   have hE' := hE.out
   rw [dropP hp, jJ] at hE'
   have HE := zA hE'
   have hal := (Below.refl wr.heap.size wr).alloc (Nat.le_refl _) (.cells #[.int .i64 p.a, .int .i64 p.g, .int .i64 p.s, .int .i64 p.m, .int .i64 p.z] 79)
   have HV := zA (bEnter_any B base F T P V D p.a p.g p.s p.m p.z _ (hBr.out.below hal) ⟨HT.out, by have := hN.out; omega, by have := hN.out; omega⟩ (by have := hN.out; omega))
   have HWa := zA (hW.out.trans (hal.mono (Nat.le_of_lt hBr.out.lt)))
   have HN' := zA (bld_lens T P V D p q hN.out.1 hN.out.2.1 hN.out.2.2)
   have HK := zA (fun h => bld_keeps (T := T) (P := P) (V := V) (D := D) (p := p) h)
   clear hE hE' hp hal hN hW hBr
   go_wp2_with fail
   refine HV.out.mono ?_
   rintro e w3 ⟨⟨rfl, hb2⟩, hb3⟩
   have HB3 := zA (HWa.out.trans hb3)
   have HBld := zA hb2
   clear hb2 hb3 HV HWa
   have hp' : (⟨p.a, p.g, p.s, p.m, p.z⟩ : TP) = p := rfl
   rw [hp'] at HBld
   rw [hp']
   clear hp'
   by_cases h0 : bldE T P V p = 0
   ·have HE' := zA (show jJ T L [] [] [] = jJ T (L.drop (q + 1)) (bldP T P V p) (bldV T P V p) (bldD T P V D p) by rw [HE.out, if_pos h0])
    rw [h0]
    clear h0 HE HK
    generalize bldP T P V p = P' at *
    generalize bldV T P V p = V' at *
    generalize bldD T P V D p = D' at *
    go_wp2_with fail
    exact ⟨⟨q + 1, P', V', D', by omega, by simp, HE', HN', HBld, HB3⟩, by simp [intOf]; omega⟩
   ·have h0' : (bldE T P V p != 0) = true := by simpa using h0
    have HE' := zA (show R = (bldE T P V p, P, V, D) by rw [HR.out, HE.out, if_neg h0])
    obtain ⟨k1, k2, k3⟩ := HK.out h0
    rw [k1, k2, k3] at HBld
    clear h0 HE HK k1 k2 k3 HN'
    generalize bldE T P V p = E at *
    go_wp2_with fail
    go_ret
    exact ⟨⟨by rw [HE'.out]; rfl, by rw [HE'.out]; exact HBld.out⟩, HB3.out⟩
  ·have hE' := hE.out
   rw [List.drop_of_length_le (by omega), jJ] at hE'
   have HE' := zA (show R = (0, P, V, D) by rw [HR.out, hE'])
   clear hE'
   go_wp2_with fail
   go_ret
   exact ⟨⟨by rw [HE'.out]; rfl, by rw [HE'.out]; exact hBr.out⟩, hW.out⟩
def qD (T : List TK) (P M : List TP) : Int × List TP × List Int × List TP := jJ T (srt (P ++ M)) [] [] []
def qC (T : List TK) (P : List TP) (V : List Int) (M : List TP) : Int :=
 if xC T P V = 0 then (if 12 < M.length then 2 else if ordE (P ++ M) = 0 then (qD T P M).1 else ordE (P ++ M)) else xC T P V
def xV (T : List TK) (P : List TP) (V : List Int) (M : List TP) : List TK := if qC T P V M = 0 then T else []
def xR (T : List TK) (P : List TP) (V : List Int) (M : List TP) : List TP := if qC T P V M = 0 then (qD T P M).2.1 else []
def xY (T : List TK) (P : List TP) (V : List Int) (M : List TP) : List Int := if qC T P V M = 0 then (qD T P M).2.2.1 else []
def qL (T : List TK) (P : List TP) (V : List Int) (M : List TP) : List TP := if qC T P V M = 0 then (qD T P M).2.2.2 else []
theorem into_ways (T : List TK) (P : List TP) (V : List Int) (M : List TP) : ((xC T P V != 0) = true ∧ qC T P V M = xC T P V) ∨ (xC T P V = 0 ∧ 12 < M.length ∧ qC T P V M = 2) ∨ (xC T P V = 0 ∧ M.length ≤ 12 ∧ (ordE (P ++ M) != 0) = true ∧ qC T P V M = ordE (P ++ M)) ∨
  (xC T P V = 0 ∧ M.length ≤ 12 ∧ ordE (P ++ M) = 0 ∧ ((qD T P M).1 != 0) = true ∧ qC T P V M = (qD T P M).1) ∨ (xC T P V = 0 ∧ M.length ≤ 12 ∧ ordE (P ++ M) = 0 ∧ (qD T P M).1 = 0 ∧ qC T P V M = 0) := by
 unfold qC
 by_cases h1 : xC T P V = 0
 ·right
  rw [if_pos h1]
  by_cases h2 : 12 < M.length
  ·left; exact ⟨h1, h2, if_pos h2⟩
  ·right
   rw [if_neg h2]
   by_cases h3 : ordE (P ++ M) = 0
   ·right
    rw [if_pos h3]
    by_cases h4 : (qD T P M).1 = 0
    ·right; exact ⟨h1, by omega, h3, h4, h4⟩
    ·left; exact ⟨h1, by omega, h3, by simpa using h4, rfl⟩
   ·left; rw [if_neg h3]; exact ⟨h1, by omega, by simpa using h3, rfl⟩
 ·left; rw [if_neg h1]; exact ⟨by simpa using h1, rfl⟩
theorem into_err {T : List TK} {P : List TP} {V : List Int} {M : List TP} (h : qC T P V M ≠ 0) : xV T P V M = [] ∧ xR T P V M = [] ∧ xY T P V M = [] ∧ qL T P V M = [] := by
 simp [xV, xR, xY, qL, h]
theorem chkL_lens {T : List TK} {P : List TP} {V : List Int} (h : xC T P V = 0) : T.length ≤ 12 ∧ P.length ≤ 60 ∧ V.length = P.length := by
 have := zW h
 exact ⟨by omega, by omega, by omega⟩
theorem taps_lt {w : World} {o : Option Addr} {L : List TP} (h : zI w o L) (A : Addr) (hA : o = some A) (hne : L ≠ []) : A.block < w.heap.size := by
 cases L with
 | nil => exact absurd rfl hne
 | cons p L =>
  obtain ⟨b, hb, c0, -⟩ := h 0 p rfl
  rw [hA] at hb
  cases hb
  have := World.block_lt_of_cell? w _ c0
  rwa [yY] at this
theorem into_any (T : List TK) (P : List TP) (V : List Int) (M : List TP) (o1 o2 o3 om : Option Addr) (c1 c2 c3 cm : Nat) (w : World) (hled : xW w (lg o1 o2 o3 T.length c1 P.length c2 V.length c3) T P V) (hl : xP T P V) (hM : zI w om M) (hlM : M.length ≤ 9223372036854775807) (hnM : om = none → cm = 0) :
  Calls Tryz.prog 111 #[lg o1 o2 o3 T.length c1 P.length c2 V.length c3, .slice om M.length cm] w fun e w' =>
   (∃ lv od nd cd, e = .returned (.tuple #[lv, .slice od nd cd, .int .i64 (qC T P V M)]) ∧ LedN w.heap.size w' lv (xV T P V M) (xR T P V M) (xY T P V M) ∧ zR w' (.slice od nd cd) (qL T P V M) ∧ zK w.heap.size (.slice od nd cd)) ∧ Below w.heap.size w w' := by
 have HG := zA (((zL.nil w).more (.cells #[.slice o1 T.length c1, .slice o2 P.length c2, .slice o3 V.length c3] 26) (by simp)).more (.cells #[.slice none 0 0, .slice none 0 0, .slice none 0 0] 26) (by simp))
 have HCk := zA (fun W (h : xW W (lg o1 o2 o3 T.length c1 P.length c2 V.length c3) T P V) => checkV h hl)
 have HLed := zA hled
 have HM := zA hM
 rcases into_ways T P V M with ⟨h1, h2⟩ | ⟨h1, h3, h2⟩ | ⟨h1, h3, h4, h2⟩ | ⟨h1, h3, h4, h5, h2⟩ | ⟨h1, h3, h4, h5, h2⟩
 ·have hne : qC T P V M ≠ 0 := by rw [h2]; simpa using h1
  obtain ⟨e1, e2, e3, e4⟩ := into_err hne
  rw [e1, e2, e3, e4, h2]
  clear hled hM hne e1 e2 e3 e4 h2
  generalize xC T P V = E at *
  go_enter Tryz.func111, Tryz.ntmps111
  go_wp2_with fail
  refine (HCk.out _ (HLed.out.below HG.out.2.2)).mono ?_
  rintro e w1 ⟨rfl, hb⟩
  have HG1 := zA (HG.out.on hb)
  clear hb HG
  have lr := HG1.out.lt 1 (w.heap.size + 1) (by simp) rfl
  obtain ⟨r0, r1, r2⟩ := HG1.out.c3 1 (w.heap.size + 1) rfl rfl rfl rfl rfl
  obtain ⟨f0, f1, f2⟩ := HG1.out.z3 1 (w.heap.size + 1) rfl rfl
  go_wp2_with fail
  refine bodyPost_ret (v := .tuple #[lg none none none 0 0 0 0 0 0, .slice none 0 0, .int .i64 E]) (by simp [results, Tryz.results111, go_sem, *]) rfl ⟨⟨_, _, _, _, rfl, yV _ _, xX _, xI _⟩, ?_⟩
  repeat (first | with_reducible refine Below.setCell ?_ (by simp; try omega) _ | exact HG1.out.2.2)
 ·have hne : qC T P V M ≠ 0 := by rw [h2]; decide
  obtain ⟨e1, e2, e3, e4⟩ := into_err hne
  rw [e1, e2, e3, e4, h2]
  rw [h1] at HCk
  have h3' : (12 : Int) < (M.length : Int) := by omega
  clear hled hM hne e1 e2 e3 e4 h2 h1 h3
  go_enter Tryz.func111, Tryz.ntmps111
  go_wp2_with fail
  refine (HCk.out _ (HLed.out.below HG.out.2.2)).mono ?_
  rintro e w1 ⟨rfl, hb⟩
  have HG1 := zA (HG.out.on hb)
  clear hb HG
  have lr := HG1.out.lt 1 (w.heap.size + 1) (by simp) rfl
  obtain ⟨r0, r1, r2⟩ := HG1.out.c3 1 (w.heap.size + 1) rfl rfl rfl rfl rfl
  obtain ⟨f0, f1, f2⟩ := HG1.out.z3 1 (w.heap.size + 1) rfl rfl
  go_wp2_with fail
  refine bodyPost_ret (v := .tuple #[lg none none none 0 0 0 0 0 0, .slice none 0 0, .int .i64 2]) (by simp [results, Tryz.results111, go_sem, *]) rfl ⟨⟨_, _, _, _, rfl, yV _ _, xX _, xI _⟩, ?_⟩
  repeat (first | with_reducible refine Below.setCell ?_ (by simp; try omega) _ | exact HG1.out.2.2)
 ·have hne : qC T P V M ≠ 0 := by rw [h2]; simpa using h4
  obtain ⟨e1, e2, e3, e4⟩ := into_err hne
  rw [e1, e2, e3, e4, h2]
  clear hne e1 e2 e3 e4 h2
  have hlens := chkL_lens h1
  rw [h1] at HCk
  have h3' : ¬ (12 : Int) < (M.length : Int) := by omega
  have HOr := zA (fun W o c (h : zI W o (P ++ M)) (hn : o = none → c = 0) => order_any o c (P ++ M) W h (by simp; omega) hn)
  have hsum : xO [(o2, P, c2), (om, M, cm)] ≤ 100 := by simp [xO]; omega
  have HCc := zA (fun (W : World) (h : jG W ⟨W.heap.size - 1, 0, none⟩ [(o2, P, c2), (om, M, cm)]) => concatP_any _ _ 2 W h (by simp) hsum)
  have hfl : ([(o2, P, c2), (om, M, cm)] : List (Option Addr × List TP × Nat)).flatMap (fun x => x.2.1) = P ++ M := by simp
  rw [hfl] at HCc
  have HTap := zA HLed.out.parts3.2.1.eqs
  have HTik := zA HLed.out.parts3.1.eqs
  have HLn := zA hlens
  clear hled hM hl hlM h1 h3 hsum hfl hlens
  generalize ordE (P ++ M) = E at *
  generalize P ++ M = Q at *
  go_enter Tryz.func111, Tryz.ntmps111
  go_wp2_with fail
  refine (HCk.out _ (HLed.out.below HG.out.2.2)).mono ?_
  rintro e w1 ⟨rfl, hb⟩
  have HG1 := zA (HG.out.on hb)
  clear hb HG
  obtain ⟨l0, l1, l2⟩ := HG1.out.c3 0 w.heap.size rfl rfl rfl rfl rfl
  have lr := HG1.out.lt 1 (w.heap.size + 1) (by simp) rfl
  obtain ⟨r0, r1, r2⟩ := HG1.out.c3 1 (w.heap.size + 1) rfl rfl rfl rfl rfl
  obtain ⟨f0, f1, f2⟩ := HG1.out.z3 1 (w.heap.size + 1) rfl rfl
  go_wp2_with fail
  have HGp := zA ((zL.nil w1).more (.cells #[.slice o2 P.length c2, .slice om M.length cm] 23) (by simp))
  have HG1p := zA (HG1.out.on HGp.out.2.2)
  have hpc : jG (w1.alloc (.cells #[.slice o2 P.length c2, .slice om M.length cm] 23)) ⟨(w1.alloc (.cells #[.slice o2 P.length c2, .slice om M.length cm] 23)).heap.size - 1, 0, none⟩ [(o2, P, c2), (om, M, cm)] := by
   have hb := HG1p.out.2.2
   intro q o L cap hq
   match q, hq with
   | 0, hq =>
    simp at hq
    obtain ⟨rfl, rfl, rfl⟩ := hq
    exact ⟨by simp [Addr.add, go_sem], HTap.out.2.1.below hb, HTap.out.2.2.2⟩
   | 1, hq =>
    simp at hq
    obtain ⟨rfl, rfl, rfl⟩ := hq
    exact ⟨by simp [Addr.add, go_sem], HM.out.below hb, hnM⟩
  have HPc := zA (HCc.out _ hpc)
  have hz1 : (w1.alloc (.cells #[.slice o2 P.length c2, .slice om M.length cm] 23)).heap.size - 1 = w1.heap.size := by simp
  rw [hz1] at HPc
  clear hpc hz1 l0 l1 l2 lr r0 r1 r2 f0 f1 f2
  refine HPc.out.mono ?_
  rintro e w2 ⟨⟨cv, rfl, hcv, -⟩, hb⟩
  obtain ⟨oc, cc, rfl, hcv, -, hnc⟩ := hcv
  have HG2 := zA (HG1p.out.on hb)
  have HCv := zA hcv
  clear hb hcv HPc HGp HG1p HG1
  go_wp2_with fail
  refine (HOr.out _ oc cc HCv.out hnc).mono ?_
  rintro e w3 ⟨⟨oo, no, co, rfl, hov, hof⟩, hb⟩
  have HG3 := zA (HG2.out.on hb)
  have HOv := zA hov
  have HOf := zA hof
  have hsz2 := HG2.out.2.1
  simp only [List.length_append, List.length_cons, List.length_nil] at hsz2
  clear hb hov hof HG2 HCv hnc
  obtain ⟨l0, l1, l2⟩ := HG3.out.c3 0 w.heap.size rfl rfl rfl rfl rfl
  have lr := HG3.out.lt 1 (w.heap.size + 1) (by simp) rfl
  obtain ⟨r0, r1, r2⟩ := HG3.out.c3 1 (w.heap.size + 1) rfl rfl rfl rfl rfl
  obtain ⟨f0, f1, f2⟩ := HG3.out.z3 1 (w.heap.size + 1) rfl rfl
  go_wp2_with fail
  refine bodyPost_ret (v := .tuple #[lg none none none 0 0 0 0 0 0, .slice none 0 0, .int .i64 E]) (by simp [results, Tryz.results111, go_sem, *]) rfl ⟨⟨_, _, _, _, rfl, yV _ _, xX _, xI _⟩, ?_⟩
  repeat (first | with_reducible refine Below.setCell ?_ (by simp; try omega) _ | exact HG3.out.2.2)
 ·have hne : qC T P V M ≠ 0 := by rw [h2]; simpa using h5
  obtain ⟨e1, e2, e3, e4⟩ := into_err hne
  rw [e1, e2, e3, e4, h2]
  clear hne e1 e2 e3 e4 h2
  have hlens := chkL_lens h1
  rw [h1] at HCk
  have h3' : ¬ (12 : Int) < (M.length : Int) := by omega
  have HOr := zA (fun W o c (h : zI W o (P ++ M)) (hn : o = none → c = 0) => order_any o c (P ++ M) W h (by simp; omega) hn)
  have hsum : xO [(o2, P, c2), (om, M, cm)] ≤ 100 := by simp [xO]; omega
  have HCc := zA (fun (W : World) (h : jG W ⟨W.heap.size - 1, 0, none⟩ [(o2, P, c2), (om, M, cm)]) => concatP_any _ _ 2 W h (by simp) hsum)
  have hfl : ([(o2, P, c2), (om, M, cm)] : List (Option Addr × List TP × Nat)).flatMap (fun x => x.2.1) = P ++ M := by simp
  rw [hfl] at HCc
  have HTap := zA HLed.out.parts3.2.1.eqs
  have HTik := zA HLed.out.parts3.1.eqs
  have HLn := zA hlens
  clear hled hM hl hlM h1 h3 hsum hfl hlens
  have hS : ordR (P ++ M) = srt (P ++ M) := by simp [ordR, h4]
  rw [h4, hS] at HOr
  have hSl : (srt (P ++ M)).length ≤ 72 := by rw [srt_len]; exact (ordE_right h4).1
  have HEb := zA (fun (W : World) (B base : Nat) (h : Bld W B base (w.heap.size + 2) T [] [] []) (o : Option Addr) (cap : Nat) (hL : zI W o (srt (P ++ M))) (hlt : ∀ A, o = some A → srt (P ++ M) ≠ [] → A.block < B) => eachB_any B base (w.heap.size + 2) T o cap (srt (P ++ M)) W h (by have := HLn.out; omega) hL hlt hSl)
  clear h4 hS hSl
  unfold qD at *
  generalize jJ T (srt (P ++ M)) [] [] [] = R at *
  obtain ⟨E, P', V', D'⟩ := R
  dsimp only at *
  generalize srt (P ++ M) = S at *
  generalize P ++ M = Q at *
  go_enter Tryz.func111, Tryz.ntmps111
  go_wp2_with fail
  refine (HCk.out _ (HLed.out.below HG.out.2.2)).mono ?_
  rintro e w1 ⟨rfl, hb⟩
  have HG1 := zA (HG.out.on hb)
  clear hb HG
  obtain ⟨l0, l1, l2⟩ := HG1.out.c3 0 w.heap.size rfl rfl rfl rfl rfl
  have lr := HG1.out.lt 1 (w.heap.size + 1) (by simp) rfl
  obtain ⟨r0, r1, r2⟩ := HG1.out.c3 1 (w.heap.size + 1) rfl rfl rfl rfl rfl
  obtain ⟨f0, f1, f2⟩ := HG1.out.z3 1 (w.heap.size + 1) rfl rfl
  go_wp2_with fail
  have HGp := zA ((zL.nil w1).more (.cells #[.slice o2 P.length c2, .slice om M.length cm] 23) (by simp))
  have HG1p := zA (HG1.out.on HGp.out.2.2)
  have hpc : jG (w1.alloc (.cells #[.slice o2 P.length c2, .slice om M.length cm] 23)) ⟨(w1.alloc (.cells #[.slice o2 P.length c2, .slice om M.length cm] 23)).heap.size - 1, 0, none⟩ [(o2, P, c2), (om, M, cm)] := by
   have hb := HG1p.out.2.2
   intro q o L cap hq
   match q, hq with
   | 0, hq =>
    simp at hq
    obtain ⟨rfl, rfl, rfl⟩ := hq
    exact ⟨by simp [Addr.add, go_sem], HTap.out.2.1.below hb, HTap.out.2.2.2⟩
   | 1, hq =>
    simp at hq
    obtain ⟨rfl, rfl, rfl⟩ := hq
    exact ⟨by simp [Addr.add, go_sem], HM.out.below hb, hnM⟩
  have HPc := zA (HCc.out _ hpc)
  have hz1 : (w1.alloc (.cells #[.slice o2 P.length c2, .slice om M.length cm] 23)).heap.size - 1 = w1.heap.size := by simp
  rw [hz1] at HPc
  clear hpc hz1 l0 l1 l2 lr r0 r1 r2 f0 f1 f2
  refine HPc.out.mono ?_
  rintro e w2 ⟨⟨cv, rfl, hcv, -⟩, hb⟩
  obtain ⟨oc, cc, rfl, hcv, -, hnc⟩ := hcv
  have HG2 := zA (HG1p.out.on hb)
  have HCv := zA hcv
  clear hb hcv HPc HGp HG1p HG1
  go_wp2_with fail
  refine (HOr.out _ oc cc HCv.out hnc).mono ?_
  rintro e w3 ⟨⟨oo, no, co, rfl, hov, hof⟩, hb⟩
  have HG3 := zA (HG2.out.on hb)
  obtain ⟨rfl, hoa, -, -⟩ := hov.eqs
  have HOa := zA hoa
  have HOl := zA (taps_lt hoa)
  have hsz2 := HG2.out.2.1
  simp only [List.length_append, List.length_cons, List.length_nil] at hsz2
  clear hb hov hof hoa HG2 HCv hnc
  obtain ⟨l0, l1, l2⟩ := HG3.out.c3 0 w.heap.size rfl rfl rfl rfl rfl
  have lr := HG3.out.lt 1 (w.heap.size + 1) (by simp) rfl
  obtain ⟨r0, r1, r2⟩ := HG3.out.c3 1 (w.heap.size + 1) rfl rfl rfl rfl rfl
  obtain ⟨f0, f1, f2⟩ := HG3.out.z3 1 (w.heap.size + 1) rfl rfl
  have hsz3 := HG3.out.2.1
  simp only [List.length_append, List.length_cons, List.length_nil] at hsz3
  go_wp2_with fail
  refine (cloneK_any T o1 c1 _ (HTik.out.2.1.below HG3.out.2.2) (by have := HLn.out; omega)).mono ?_
  rintro e w4 ⟨⟨ct, rfl, hct, hcf⟩, hb⟩
  obtain ⟨ok, ck, rfl, hct1, hct2, hct3⟩ := hct
  have HK4 := zA (show yJ w4 (.slice ok T.length ck) T from ⟨ok, ck, rfl, hct1, hct2, hct3⟩)
  have HKf := zA (hcf.monoB (C := w.heap.size + 2) (by omega))
  have HO4 := zA (HOa.out.below hb)
  have HOl4 := zA (fun A h1 h2 => Nat.lt_of_lt_of_le (HOl.out A h1 h2) hb.size)
  have HG4 := zA (HG3.out.on hb)
  clear hb hcf hct1 hct2 hct3 HOa HOl HG3 l0 l1 l2 lr r0 r1 r2 f0 f1 f2 hsz3 hsz2
  have lr := HG4.out.lt 1 (w.heap.size + 1) (by simp) rfl
  go_wp2_with fail
  have hal := (Below.refl w4.heap.size w4).alloc (Nat.le_refl _) (.cells #[.slice ok T.length ck, .slice none 0 0, .slice none 0 0, .slice none 0 0] 173)
  have hs5 : (w4.alloc (.cells #[.slice ok T.length ck, .slice none 0 0, .slice none 0 0, .slice none 0 0] 173)).heap.size = w4.heap.size + 1 := by simp
  have hB4 : Bld (w4.alloc (.cells #[.slice ok T.length ck, .slice none 0 0, .slice none 0 0, .slice none 0 0] 173)) w4.heap.size (w4.heap.size + 1) (w.heap.size + 2) T [] [] [] :=
   ⟨ok, ck, none, 0, none, 0, none, 0, heap_alloc_new _ _, xW.of (HK4.out.below hal) (xX _) (intsV_nil _), World.ownsRow_nil _ _ _ _, by omega, by omega, fun g hg => by simp [Value.ownBlock] at hg, ⟨HKf.out, xI _, xI _⟩, by omega⟩
  have HP5 := zA (HEb.out _ _ _ hB4 oo co (HO4.out.below hal) HOl4.out)
  clear hB4
  refine HP5.out.mono ?_
  rintro e w5 ⟨⟨rfl, hbl⟩, hb⟩
  have HG5 := zA (HG4.out.on (hal.trans hb))
  have HBl := zA hbl
  have hz5 := hb.size
  rw [hs5] at hz5
  clear hb hbl hal hs5 HP5 HG4 HK4 HKf HO4 HOl4
  have lr5 := HG5.out.lt 1 (w.heap.size + 1) (by simp) rfl
  obtain ⟨r0, r1, r2⟩ := HG5.out.c3 1 (w.heap.size + 1) rfl rfl rfl rfl rfl
  obtain ⟨f0, f1, f2⟩ := HG5.out.z3 1 (w.heap.size + 1) rfl rfl
  go_wp2_with fail
  refine bodyPost_ret (v := .tuple #[lg none none none 0 0 0 0 0 0, .slice none 0 0, .int .i64 E]) (by simp [results, Tryz.results111, go_sem, *]) rfl ⟨⟨_, _, _, _, rfl, yV _ _, xX _, xI _⟩, ?_⟩
  repeat (first | with_reducible refine Below.setCell ?_ (by simp; try omega) _ | exact HG5.out.2.2)
 ·have e1 : xV T P V M = T := by simp [xV, h2]
  have e2 : xR T P V M = (qD T P M).2.1 := by simp [xR, h2]
  have e3 : xY T P V M = (qD T P M).2.2.1 := by simp [xY, h2]
  have e4 : qL T P V M = (qD T P M).2.2.2 := by simp [qL, h2]
  rw [e1, e2, e3, e4, h2]
  clear e1 e2 e3 e4 h2
  have hlens := chkL_lens h1
  rw [h1] at HCk
  have h3' : ¬ (12 : Int) < (M.length : Int) := by omega
  have HOr := zA (fun W o c (h : zI W o (P ++ M)) (hn : o = none → c = 0) => order_any o c (P ++ M) W h (by simp; omega) hn)
  have hsum : xO [(o2, P, c2), (om, M, cm)] ≤ 100 := by simp [xO]; omega
  have HCc := zA (fun (W : World) (h : jG W ⟨W.heap.size - 1, 0, none⟩ [(o2, P, c2), (om, M, cm)]) => concatP_any _ _ 2 W h (by simp) hsum)
  have hfl : ([(o2, P, c2), (om, M, cm)] : List (Option Addr × List TP × Nat)).flatMap (fun x => x.2.1) = P ++ M := by simp
  rw [hfl] at HCc
  have HTap := zA HLed.out.parts3.2.1.eqs
  have HTik := zA HLed.out.parts3.1.eqs
  have HLn := zA hlens
  clear hled hM hl hlM h1 h3 hsum hfl hlens
  have hS : ordR (P ++ M) = srt (P ++ M) := by simp [ordR, h4]
  rw [h4, hS] at HOr
  have hSl : (srt (P ++ M)).length ≤ 72 := by rw [srt_len]; exact (ordE_right h4).1
  have HEb := zA (fun (W : World) (B base : Nat) (h : Bld W B base (w.heap.size + 2) T [] [] []) (o : Option Addr) (cap : Nat) (hL : zI W o (srt (P ++ M))) (hlt : ∀ A, o = some A → srt (P ++ M) ≠ [] → A.block < B) => eachB_any B base (w.heap.size + 2) T o cap (srt (P ++ M)) W h (by have := HLn.out; omega) hL hlt hSl)
  clear h4 hS hSl
  unfold qD at *
  generalize jJ T (srt (P ++ M)) [] [] [] = R at *
  obtain ⟨E, P', V', D'⟩ := R
  dsimp only at *
  generalize srt (P ++ M) = S at *
  generalize P ++ M = Q at *
  subst h5
  go_enter Tryz.func111, Tryz.ntmps111
  go_wp2_with fail
  refine (HCk.out _ (HLed.out.below HG.out.2.2)).mono ?_
  rintro e w1 ⟨rfl, hb⟩
  have HG1 := zA (HG.out.on hb)
  clear hb HG
  obtain ⟨l0, l1, l2⟩ := HG1.out.c3 0 w.heap.size rfl rfl rfl rfl rfl
  have lr := HG1.out.lt 1 (w.heap.size + 1) (by simp) rfl
  obtain ⟨r0, r1, r2⟩ := HG1.out.c3 1 (w.heap.size + 1) rfl rfl rfl rfl rfl
  obtain ⟨f0, f1, f2⟩ := HG1.out.z3 1 (w.heap.size + 1) rfl rfl
  go_wp2_with fail
  have HGp := zA ((zL.nil w1).more (.cells #[.slice o2 P.length c2, .slice om M.length cm] 23) (by simp))
  have HG1p := zA (HG1.out.on HGp.out.2.2)
  have hpc : jG (w1.alloc (.cells #[.slice o2 P.length c2, .slice om M.length cm] 23)) ⟨(w1.alloc (.cells #[.slice o2 P.length c2, .slice om M.length cm] 23)).heap.size - 1, 0, none⟩ [(o2, P, c2), (om, M, cm)] := by
   have hb := HG1p.out.2.2
   intro q o L cap hq
   match q, hq with
   | 0, hq =>
    simp at hq
    obtain ⟨rfl, rfl, rfl⟩ := hq
    exact ⟨by simp [Addr.add, go_sem], HTap.out.2.1.below hb, HTap.out.2.2.2⟩
   | 1, hq =>
    simp at hq
    obtain ⟨rfl, rfl, rfl⟩ := hq
    exact ⟨by simp [Addr.add, go_sem], HM.out.below hb, hnM⟩
  have HPc := zA (HCc.out _ hpc)
  have hz1 : (w1.alloc (.cells #[.slice o2 P.length c2, .slice om M.length cm] 23)).heap.size - 1 = w1.heap.size := by simp
  rw [hz1] at HPc
  clear hpc hz1 l0 l1 l2 lr r0 r1 r2 f0 f1 f2
  refine HPc.out.mono ?_
  rintro e w2 ⟨⟨cv, rfl, hcv, -⟩, hb⟩
  obtain ⟨oc, cc, rfl, hcv, -, hnc⟩ := hcv
  have HG2 := zA (HG1p.out.on hb)
  have HCv := zA hcv
  clear hb hcv HPc HGp HG1p HG1
  go_wp2_with fail
  refine (HOr.out _ oc cc HCv.out hnc).mono ?_
  rintro e w3 ⟨⟨oo, no, co, rfl, hov, hof⟩, hb⟩
  have HG3 := zA (HG2.out.on hb)
  obtain ⟨rfl, hoa, -, -⟩ := hov.eqs
  have HOa := zA hoa
  have HOl := zA (taps_lt hoa)
  have hsz2 := HG2.out.2.1
  simp only [List.length_append, List.length_cons, List.length_nil] at hsz2
  clear hb hov hof hoa HG2 HCv hnc
  obtain ⟨l0, l1, l2⟩ := HG3.out.c3 0 w.heap.size rfl rfl rfl rfl rfl
  have lr := HG3.out.lt 1 (w.heap.size + 1) (by simp) rfl
  obtain ⟨r0, r1, r2⟩ := HG3.out.c3 1 (w.heap.size + 1) rfl rfl rfl rfl rfl
  obtain ⟨f0, f1, f2⟩ := HG3.out.z3 1 (w.heap.size + 1) rfl rfl
  have hsz3 := HG3.out.2.1
  simp only [List.length_append, List.length_cons, List.length_nil] at hsz3
  go_wp2_with fail
  refine (cloneK_any T o1 c1 _ (HTik.out.2.1.below HG3.out.2.2) (by have := HLn.out; omega)).mono ?_
  rintro e w4 ⟨⟨ct, rfl, hct, hcf⟩, hb⟩
  obtain ⟨ok, ck, rfl, hct1, hct2, hct3⟩ := hct
  have HK4 := zA (show yJ w4 (.slice ok T.length ck) T from ⟨ok, ck, rfl, hct1, hct2, hct3⟩)
  have HKf := zA (hcf.monoB (C := w.heap.size + 2) (by omega))
  have HO4 := zA (HOa.out.below hb)
  have HOl4 := zA (fun A h1 h2 => Nat.lt_of_lt_of_le (HOl.out A h1 h2) hb.size)
  have HG4 := zA (HG3.out.on hb)
  clear hb hcf hct1 hct2 hct3 HOa HOl HG3 l0 l1 l2 lr r0 r1 r2 f0 f1 f2 hsz3 hsz2
  have lr := HG4.out.lt 1 (w.heap.size + 1) (by simp) rfl
  go_wp2_with fail
  have hal := (Below.refl w4.heap.size w4).alloc (Nat.le_refl _) (.cells #[.slice ok T.length ck, .slice none 0 0, .slice none 0 0, .slice none 0 0] 173)
  have hs5 : (w4.alloc (.cells #[.slice ok T.length ck, .slice none 0 0, .slice none 0 0, .slice none 0 0] 173)).heap.size = w4.heap.size + 1 := by simp
  have hB4 : Bld (w4.alloc (.cells #[.slice ok T.length ck, .slice none 0 0, .slice none 0 0, .slice none 0 0] 173)) w4.heap.size (w4.heap.size + 1) (w.heap.size + 2) T [] [] [] :=
   ⟨ok, ck, none, 0, none, 0, none, 0, heap_alloc_new _ _, xW.of (HK4.out.below hal) (xX _) (intsV_nil _), World.ownsRow_nil _ _ _ _, by omega, by omega, fun g hg => by simp [Value.ownBlock] at hg, ⟨HKf.out, xI _, xI _⟩, by omega⟩
  have HP5 := zA (HEb.out _ _ _ hB4 oo co (HO4.out.below hal) HOl4.out)
  clear hB4
  refine HP5.out.mono ?_
  rintro e w5 ⟨⟨rfl, hbl⟩, hb⟩
  have HG5 := zA (HG4.out.on (hal.trans hb))
  have HBl := zA hbl
  have hz5 := hb.size
  rw [hs5] at hz5
  clear hb hbl hal hs5 HP5 HG4 HK4 HKf HO4 HOl4
  have lr5 := HG5.out.lt 1 (w.heap.size + 1) (by simp) rfl
  obtain ⟨r0, r1, r2⟩ := HG5.out.c3 1 (w.heap.size + 1) rfl rfl rfl rfl rfl
  obtain ⟨f0, f1, f2⟩ := HG5.out.z3 1 (w.heap.size + 1) rfl rfl
  obtain ⟨p1, q1, p2, q2, p3, q3, p4, q4, hrow, hled5, hown, -, -, -, ⟨fr1, fr2, fr3⟩, -⟩ := HBl.out
  have b0 := cell_of_row _ _ 0 _ _ _ hrow
  have b1 := cell_of_row _ _ 1 _ _ _ hrow
  have b2 := cell_of_row _ _ 2 _ _ _ hrow
  have b3 := cell_of_row _ _ 3 _ _ _ hrow
  have HLd := zA (hled5.parts3)
  have HTd := zA (tapsV_own hown)
  have HTf : Hid (zK (w.heap.size + 2) (.slice p4 D'.length q4)) := zA (fun g hg => Nat.le_trans (by omega) (ownsRow_block hown g hg).1)
  have HFr := zA (And.intro fr1 (And.intro fr2 fr3))
  clear hrow hled5 hown fr1 fr2 fr3
  have hne5 : ¬ w4.heap.size = w.heap.size + 1 := by omega
  have hne5' : ¬ w.heap.size + 1 = w4.heap.size := by omega
  go_wp2_with fail
  go_region
  all_goals go_wp2_with fail
  all_goals refine bodyPost_ret (v := .tuple #[lg p1 p2 p3 T.length q1 P'.length q2 V'.length q3, .slice p4 D'.length q4, .int .i64 0]) (by simp [results, Tryz.results111, go_sem, *]) rfl ⟨⟨_, _, _, _, rfl, ⟨_, _, _, rfl, ⟨?_, HFr.out.1.mono (by omega)⟩, ⟨?_, HFr.out.2.1.mono (by omega)⟩, ⟨?_, HFr.out.2.2.mono (by omega)⟩⟩, ?_, HTf.out.mono (by omega)⟩, ?_⟩
  ·repeat (first | exact HLd.out.1 | with_reducible refine yJ.below ?_ (Below.refl _ _).drew | with_reducible refine yJ.set ?_ HFr.out.1 (by simp) _)
  ·repeat (first | exact HLd.out.2.1 | with_reducible refine zR.below ?_ (Below.refl _ _).drew | with_reducible refine zR.set ?_ HFr.out.2.1 (by simp) _)
  ·repeat (first | exact HLd.out.2.2 | with_reducible refine zP.below ?_ (Below.refl _ _).drew | with_reducible refine zP.set ?_ HFr.out.2.2 (by simp) _)
  ·repeat (first | exact HTd.out | with_reducible refine zR.below ?_ (Below.refl _ _).drew | with_reducible refine zR.set ?_ HTf.out (by simp) _)
  ·repeat (first | with_reducible refine Below.setCell ?_ (by simp; try omega) _ | with_reducible refine Below.drew ?_ | exact HG5.out.2.2)
def GT2 (F : Nat) (w : World) (x : GT) (o : Option Addr) (c : Nat) (M : List TP) : Prop := Gn F w x ∧ zR w (.slice o M.length c) M ∧ zK F (.slice o M.length c)
theorem GT2.below {F : Nat} {w w' : World} {x : GT} {o : Option Addr} {c : Nat} {M : List TP} (h : GT2 F w x o c M) (hb : Below w.heap.size w w') : GT2 F w' x o c M := ⟨h.1.below hb, h.2.1.below hb, h.2.2⟩
theorem GT2.mono {F E : Nat} {w : World} {x : GT} {o : Option Addr} {c : Nat} {M : List TP} (h : GT2 F w x o c M) (hE : E ≤ F) : GT2 E w x o c M := ⟨h.1.mono hE, h.2.1, h.2.2.mono hE⟩
theorem GT2.setO {F : Nat} {w : World} {x : GT} {o : Option Addr} {c : Nat} {M : List TP} (h : GT2 F w x o c M) {p : Addr} (ho : GOff x p.block ∧ Off o M p.block) (u : Value) : GT2 F (w.setCell p u) x o c M := ⟨h.1.setO ho.1 u, h.2.1.setO ho.2 u, h.2.2⟩
theorem GT2.offlt {F : Nat} {w : World} {x : GT} {o : Option Addr} {c : Nat} {M : List TP} (h : GT2 F w x o c M) : GOff x w.heap.size ∧ Off o M w.heap.size := ⟨h.1.offlt, jI h.2.1⟩
theorem GT2.offnew {F : Nat} {w : World} {x : GT} {o : Option Addr} {c : Nat} {M : List TP} (h : GT2 F w x o c M) {b : Nat} (hb : b < F) : GOff x b ∧ Off o M b := ⟨h.1.offnew hb, zQ h.2.2 hb⟩
theorem gateSync_one (g : GT) (v' : Int) (od' : Option Addr) (D' : List Int) (cd' : Nat) (m : Int) (w : World) (hP : zR w (.slice g.oa g.A.length g.ca) g.A) (hD : zP w (.slice g.od g.D.length g.cd) g.D) (hD' : zH w od' D') (hlP : g.A.length ≤ 12) (hlD : g.D.length ≤ 9223372036854775807) (hlD' : D'.length ≤ 9223372036854775807) :
  Calls Tryz.prog 110 #[gtV g.i g.z g.s g.oa g.A.length g.ca g.v g.od g.D.length g.cd g.l g.u, dn v' od' D'.length cd', .int .i64 m] w fun e w' => (∃ (x : GT) (o : Option Addr) (c : Nat), e = .returned (.tuple #[gtV x.i x.z x.s x.oa x.A.length x.ca x.v x.od x.D.length x.cd x.l x.u, .slice o (if vA g.i g.z g.s g.A g.v g.D g.l g.u v' D' m = 0 then g.A else []).length c, .int .i64 (vA g.i g.z g.s g.A g.v g.D g.l g.u v' D' m)]) ∧
   GT2 w.heap.size w' x o c (if vA g.i g.z g.s g.A g.v g.D g.l g.u v' D' m = 0 then g.A else []) ∧ (vA g.i g.z g.s g.A g.v g.D g.l g.u v' D' m = 0 → x.p = ⟨g.i, g.z, g.s, [], if g.v < v' then v' else g.v, if g.v < v' then D' else g.D, 9, m + 100⟩)) ∧ Below w.heap.size w w' := by
 by_cases hE : vA g.i g.z g.s g.A g.v g.D g.l g.u v' D' m = 0
 ·refine (gateSync_ok g.i g.z g.s g.oa g.A g.ca g.v g.od g.D g.cd g.l g.u v' od' D' cd' m w hP.ats hD.ats hD' hlD hlD' hlP hE).mono ?_
  rintro e w' ⟨⟨on, cn, x, rfl, h1, h2, ⟨o, c, rfl, h3⟩, h4⟩, hb⟩
  rw [if_pos hE]
  exact ⟨⟨⟨g.i, g.z, g.s, none, [], 0, if g.v < v' then v' else g.v, on, if g.v < v' then D' else g.D, cn, 9, m + 100⟩, o, c, by rw [hE]; rfl, ⟨⟨⟨⟨none, 0, rfl, fun i p h => by simp at h, by simp, fun _ => rfl⟩, fun k hk => by simp [Value.ownBlock] at hk⟩, h1, h2⟩, ⟨o, c, rfl, h3⟩, h4⟩, fun _ => rfl⟩, hb⟩
 ·refine (gateSync_err g.i g.z g.s g.oa g.A g.ca g.v g.od g.D g.cd g.l g.u v' od' D' cd' m w hP.ats hD.ats hD' hlD hlD' hE).mono ?_
  rintro e w' ⟨rfl, hb⟩
  rw [if_neg hE]
  exact ⟨⟨⟨0, 0, 0, none, [], 0, 0, none, [], 0, 0, 0⟩, none, 0, rfl, ⟨.zero _ _ _ _ _ _ _ _, ⟨none, 0, rfl, fun i p h => by simp at h, by simp, fun _ => rfl⟩, fun k hk => by simp [Value.ownBlock] at hk⟩, fun h => absurd h hE⟩, hb⟩
theorem zR.kq {S : Nat → Prop} {w w' : World} {o : Option Addr} {n c : Nat} {L : List TP} (h : zR w (.slice o n c) L) (hk : Kq S w w') (ho : ∀ b, S b → Off o L b) : zR w' (.slice o n c) L := by
 obtain ⟨rfl, h1, h2, h3⟩ := h.eqs
 exact ⟨o, c, rfl, h1.kq hk ho, h2, h3⟩
theorem keeperSync_range (K : Nat) (n m : Int) (w : World) (hn : wi n 0 2 = false) : Calls Tryz.prog 62 #[.pointer (some ⟨K, 0, none⟩), .int .i64 n, .int .i64 m] w fun e w' => e = .returned (.tuple #[.slice none 0 0, .int .i64 3]) ∧ w' = w := by
 go_enter Tryz.func62, Tryz.ntmps62
 go_wp2_with fail
 refine (qR _ _).mono ?_
 rintro e w1 ⟨rfl, hw⟩
 obtain rfl := hw.symm
 rw [hn]
 go_wp2_with fail
 go_ret2
 exact ⟨rfl, rfl⟩
def syncK (T : List TK) (P : List TP) (V : List Int) (dv : Int) (D : List Int) (W : List VW) (g : GP) (m : Int) : Int :=
 if jE W = true then (if vA g.i g.z g.s g.A g.v g.D g.l g.u dv D m = 0 then qC T P V g.A else vA g.i g.z g.s g.A g.v g.D g.l g.u dv D m) else 4
theorem bldA_lens (T : List TK) : ∀ (L P : List TP) (V : List Int) (D : List TP), (jJ T L P V D).2.2.2.length ≤ D.length + L.length
 | [], P, V, D => by simp [jJ]
 | p :: L, P, V, D => by
  rw [jJ]
  by_cases h : bldE T P V p = 0
  ·rw [if_pos h]
   have := bldA_lens T L (bldP T P V p) (bldV T P V p) (bldD T P V D p)
   have h2 : (bldD T P V D p).length ≤ D.length + 1 := by
    unfold bldD
    split
    ·omega
    ·split
     ·simp
     ·omega
   simp only [List.length_cons]
   omega
  ·rw [if_neg h]
   simp only [List.length_cons]
   omega
theorem intoD_len (T : List TK) (P : List TP) (V : List Int) (M : List TP) (hM : M.length ≤ 12) (hP : P.length ≤ 60) : (qL T P V M).length ≤ 9223372036854775807 := by
 unfold qL
 split
 ·have := bldA_lens T (srt (P ++ M)) [] [] []
  unfold qD
  have h2 : (srt (P ++ M)).length = P.length + M.length := by simp [srt]
  simp only [List.length_nil] at this
  omega
 ·simp
theorem keeperSync_any (K Q B : Nat) (a : KA) (T : List TK) (P : List TP) (V : List Int) (dv : Int) (D : List Int) (G : List GT) (W : List VW) (q : Nat) (g : GT) (m : Int) (w : World) (hK : Ks w K Q B a T P V dv D G W) (hq : G[q]? = some g) (hq3 : q < 3) (hl : xP T P V) (hl2 : P.length ≤ 60) (hlA : g.A.length ≤ 12) (hlgD : g.D.length ≤ 9223372036854775807) (hlD : D.length ≤ 12) (hlW : W.length ≤ 9223372036854775807) :
  Calls Tryz.prog 62 #[.pointer (some ⟨K, 0, none⟩), .int .i64 (q : Int), .int .i64 m] w fun e w' => (∃ E M o c, E = syncK T P V dv D W g.p m ∧ M = (if E = 0 then qL T P V g.A else []) ∧ e = .returned (.tuple #[.slice o M.length c, .int .i64 E]) ∧ (zR w' (.slice o M.length c) M ∧ zK w.heap.size (.slice o M.length c)) ∧ (E ≠ 0 → Ks w' K Q B a T P V dv D G W) ∧
   (E = 0 → ∃ a' x, x.p = ⟨g.i, g.z, g.s, [], (yC M dv D).1, (yC M dv D).2, 9, m + 100⟩ ∧ Ks w' K Q B a' (xV T P V g.A) (xR T P V g.A) (xY T P V g.A) (yC M dv D).1 (yC M dv D).2 (G.set q x) W)) ∧ Kq (KQ K Q) w w' := by
 have HK := zA hK
 have HK0 := zA hK
 have hKlt := hK.lt
 have hQlt := hK.qlt
 have hbk := hK.bk
 have hne := hK.ne
 have hql := (List.getElem?_eq_some_iff.1 hq).1
 have hi1 : (0 : Int) ≤ (q : Int) := by omega
 have hi2 : (q : Int) < (G.length : Int) := by omega
 have hgate : wi (q : Int) 0 2 = true := by simp [wi]; omega
 have hadd := qX Q (q * 8)
 have HN := zA (fun X (h : Ks X K Q B a T P V dv D G W) => led_any a.o1 a.o2 a.o3 T.length a.c1 P.length a.c2 V.length a.c3 dv a.od D.length a.cd (some ⟨Q, 0, none⟩) G.length a.cg a.ov a.cv W X h.kl.vws.1.ats hlW)
 have HSy := zA (fun X (h : Ks X K Q B a T P V dv D G W) => gateSync_one g dv a.od D a.cd m X (h.kl.gts g (List.mem_of_getElem? hq)).1.1 (h.kl.gts g (List.mem_of_getElem? hq)).2.1 h.kl.den.1.ats hlA hlgD (by omega))
 have HIn := zA (fun X (h : Ks X K Q B a T P V dv D G W) (ot : Option Addr) (ct : Nat) (h' : zR X (.slice ot g.A.length ct) g.A) => into_any T P V g.A a.o1 a.o2 a.o3 ot a.c1 a.c2 a.c3 ct X h.led hl h'.ats (by omega) h'.eqs.2.2.2)
 have Hq := zA hq
 clear hK hq
 have k0 := HK.out.c0
 have k1 := HK.out.c1
 have k2 := HK.out.c2
 have k3 := HK.out.c3
 have k4 := HK.out.c4
 have k5 := HK.out.c5
 have k6 := HK.out.c6
 unfold syncK
 have hgp : g.p = ⟨g.i, g.z, g.s, g.A, g.v, g.D, g.l, g.u⟩ := rfl
 rw [hgp]
 simp only []
 clear hgp
 generalize jE W = nw at *
 cases nw
 ·rw [if_neg (show ¬ false = true by decide)]
  go_enter Tryz.func62, Tryz.ntmps62
  go_wp2_with fail
  refine (qR _ _).mono ?_
  rintro e w1 ⟨rfl, hw⟩
  obtain rfl := hw.symm
  rw [hgate]
  go_wp2_with fail
  refine (HN.out _ HK.out).mono ?_
  rintro e w1 ⟨rfl, hb⟩
  have HK1 := zA (HK.out.below hb)
  have HA1 := zA hb
  clear hb HK HN k0 k1 k2 k3 k4 k5 k6
  go_wp2_with fail
  go_ret2
  exact ⟨⟨4, [], none, 0, rfl, rfl, rfl, ⟨⟨none, 0, rfl, fun i p h => by simp at h, by simp, fun _ => rfl⟩, fun k hk => by simp [Value.ownBlock] at hk⟩, fun _ => HK1.out, fun h => absurd h (by decide)⟩, .ofBelow HA1.out⟩
 ·rw [if_pos rfl]
  obtain ⟨GX, hGX⟩ : ∃ GX : GP, GX = ⟨g.i, g.z, g.s, [], if g.v < dv then dv else g.v, if g.v < dv then D else g.D, 9, m + 100⟩ := ⟨_, rfl⟩
  rw [← hGX] at HSy
  have HGX := zA hGX
  clear hGX
  generalize vA g.i g.z g.s g.A g.v g.D g.l g.u dv D m = E1 at *
  obtain ⟨ML, hML⟩ : ∃ ML, ML = if E1 = 0 then g.A else [] := ⟨_, rfl⟩
  rw [← hML] at HSy
  have HML := zA hML
  clear hML
  generalize qC T P V g.A = E2 at *
  generalize xV T P V g.A = IT at *
  generalize xR T P V g.A = IP at *
  generalize xY T P V g.A = IV at *
  have hil : (qL T P V g.A).length ≤ 9223372036854775807 := intoD_len T P V g.A hlA hl2
  generalize qL T P V g.A = ID at *
  have HIl := zA hil
  clear hil
  obtain ⟨RE, hRE⟩ : ∃ RE, RE = if E1 = 0 then E2 else E1 := ⟨_, rfl⟩
  rw [← hRE]
  have HRE := zA hRE
  clear hRE
  go_enter Tryz.func62, Tryz.ntmps62
  go_wp2_with fail
  refine (qR _ _).mono ?_
  rintro e w1 ⟨rfl, hw⟩
  obtain rfl := hw.symm
  rw [hgate]
  go_wp2_with fail
  refine (HN.out _ HK.out).mono ?_
  rintro e w1 ⟨rfl, hb⟩
  have HK1 := zA (HK.out.below hb)
  have HA1 := zA hb
  clear hb HK HN k0 k1 k2 k3 k4 k5 k6
  go_upto_region 5 with fail
  go_cut [8, 9, 10] from 21 to 40 (fun s8 s9 s10 wx => ∃ (b : Nat) (x : GT) (ot : Option Addr) (ct : Nat), s8 = .pointer (some ⟨b, 0, none⟩) ∧ s9 = .slice ot ML.length ct ∧ s10 = .int .i64 E1 ∧ Hid (w1.heap.size ≤ b ∧ wx.heap[b]? = some (.cells #[.int .i64 x.i, .int .i64 x.z, .int .i64 x.s, .slice x.oa x.A.length x.ca, .int .i64 x.v, .slice x.od x.D.length x.cd, .int .i64 x.l, .int .i64 x.u] 58)) ∧ Hid (GT2 w1.heap.size wx x ot ct ML) ∧ Hid (E1 = 0 → x.p = GX) ∧ Hid (Below w1.heap.size w1 wx))
  case first =>
   refine zJ (fun w' => Ks w' K Q B a T P V dv D G W) [0, 1, 2, 3, 4, 5, 6, 7, 8, 9, 10, 11, 12, 13] 9 (by rfl) (by kernel_rfl) (by kernel_rfl) (by kernel_rfl) (fun c d v a w h => by cases d <;> exact h) ?_ ?_
   ·exact HK1.out.below (Below.refl _ _).drew
   refine zB (.pointer (some ⟨K, 0, none⟩)) rfl rfl (fun w' hS => ?_) ?_
   ·go_simp
   refine zB (.pointer (some ⟨K, 0, none⟩)) rfl rfl (fun w' hS => ?_) ?_
   ·go_simp
   refine zB (.pointer (some ⟨K, 0, none⟩)) rfl rfl (fun w' hS => ?_) ?_
   ·go_simp
   refine zB (.pointer (some ⟨K, 5, none⟩)) rfl rfl (fun w' hS => ?_) ?_
   ·go_simp
   refine zB (.slice (some ⟨Q, 0, none⟩) G.length a.cg) rfl rfl (fun w' hS => ?_) ?_
   ·have k5 := hS.c5
    go_simp
   refine zB (.int .i64 (q : Int)) rfl rfl (fun w' hS => ?_) ?_
   ·go_simp
   refine zB (.pointer (some ⟨Q, q * 8, none⟩)) rfl rfl (fun w' hS => ?_) ?_
   ·go_simp
   refine zB (gtV g.i g.z g.s g.oa g.A.length g.ca g.v g.od g.D.length g.cd g.l g.u) rfl rfl (fun w' hS => ?_) ?_
   ·have g0 := hS.g0 Hq.out
    have g1 := hS.g1 Hq.out
    have g2 := hS.g2 Hq.out
    have g3 := hS.g3 Hq.out
    have g4 := hS.g4 Hq.out
    have g5 := hS.g5 Hq.out
    have g6 := hS.g6 Hq.out
    have g7 := hS.g7 Hq.out
    go_simp
   refine zB (.pointer (some ⟨K, 0, none⟩)) rfl rfl (fun w' hS => ?_) ?_
   ·go_simp
   refine zB (.pointer (some ⟨K, 0, none⟩)) rfl rfl (fun w' hS => ?_) ?_
   ·go_simp
   refine zB (.pointer (some ⟨K, 0, none⟩)) rfl rfl (fun w' hS => ?_) ?_
   ·go_simp
   refine zB (.pointer (some ⟨K, 3, none⟩)) rfl rfl (fun w' hS => ?_) ?_
   ·go_simp
   refine zB (dn dv a.od D.length a.cd) rfl rfl (fun w' hS => ?_) ?_
   ·have k3 := hS.c3
    have k4 := hS.c4
    go_simp
   refine zB (.int .i64 m) rfl rfl (fun w' hS => ?_) ?_
   ·go_simp
   refine zE ?_
   have HKd := zA (HK1.out.below (Below.refl _ _).drew)
   have HAd := zA ((Below.refl w1.heap.size w1).drew)
   have hsd : w1.heap.size ≤ w1.drew.heap.size := Nat.le_refl _
   clear HK1
   generalize (World.drew _) = w0 at *
   refine zT (i := 14) (j := 19) (by kernel_rfl) rfl rfl rfl rfl (fun J hJ => ?_) (fun J hJ => ?_)
   ·go_simp
    refine (HSy.out w0 HKd.out).mono ?_
    rintro e v1 ⟨⟨x, ot, ct, rfl, hN, hX⟩, hb⟩
    have HN := zA hN
    have HX := zA hX
    clear hN hX
    have HB1 := zA (hb)
    have u1 := HB1.out.size
    refine hJ _ _ (HKd.out.below HB1.out) ?_
    clear hJ J hb  
    refine yB (fuel := 4) (by kernel_rfl) (fun c d v a w h => by cases d <;> exact h) (HKd.out.below HB1.out) [15, 16, 17, 18] _ _ (by kernel_rfl) ?_
    refine pS (.tuple #[gtV x.i x.z x.s x.oa x.A.length x.ca x.v x.od x.D.length x.cd x.l x.u, .slice ot ML.length ct, .int .i64 E1]) rfl rfl ?_
    refine pS (gtV x.i x.z x.s x.oa x.A.length x.ca x.v x.od x.D.length x.cd x.l x.u) rfl rfl ?_
    refine pS (.slice ot ML.length ct) rfl rfl ?_
    refine pS (.int .i64 E1) rfl rfl ?_
    refine zE ?_
    refine oR 19 rfl rfl fun J hJ => ?_
    go_simp
    have hba := (Below.refl v1.heap.size v1).alloc (Nat.le_refl _) (.cells #[.int .i64 0, .int .i64 0, .int .i64 0, .slice none 0 0, .int .i64 0, .slice none 0 0, .int .i64 0, .int .i64 0] 58)
    have HB2 := zA (HB1.out.trans (hba.mono HB1.out.size))
    have Z2_19 : Hid ((v1.alloc (.cells #[.int .i64 0, .int .i64 0, .int .i64 0, .slice none 0 0, .int .i64 0, .slice none 0 0, .int .i64 0, .int .i64 0] 58)).heap[v1.heap.size]? = some (.cells #[.int .i64 0, .int .i64 0, .int .i64 0, .slice none 0 0, .int .i64 0, .slice none 0 0, .int .i64 0, .int .i64 0] 58)) := zA (heap_alloc_new v1 _)
    have q2 : v1.heap.size < (v1.alloc (.cells #[.int .i64 0, .int .i64 0, .int .i64 0, .slice none 0 0, .int .i64 0, .slice none 0 0, .int .i64 0, .int .i64 0] 58)).heap.size := by simp
    have O2_19 := zA (HN.out.offlt)
    have N2 := zA (HN.out.below hba)
    refine hJ _ _ (HKd.out.below HB2.out) ?_
    clear hJ J hba HB1  HN
    generalize v1.alloc (.cells #[.int .i64 0, .int .i64 0, .int .i64 0, .slice none 0 0, .int .i64 0, .slice none 0 0, .int .i64 0, .int .i64 0] 58) = v2 at *
    have hZ := Z2_19.out
    have r0 := cell_of_row _ _ 0 _ _ _ hZ
    have s0 := frozen_of_row _ _ 0 _ _ hZ
    have r1 := cell_of_row _ _ 1 _ _ _ hZ
    have s1 := frozen_of_row _ _ 1 _ _ hZ
    have r2 := cell_of_row _ _ 2 _ _ _ hZ
    have s2 := frozen_of_row _ _ 2 _ _ hZ
    have r3 := cell_of_row _ _ 3 _ _ _ hZ
    have s3 := frozen_of_row _ _ 3 _ _ hZ
    have r4 := cell_of_row _ _ 4 _ _ _ hZ
    have s4 := frozen_of_row _ _ 4 _ _ hZ
    have r5 := cell_of_row _ _ 5 _ _ _ hZ
    have s5 := frozen_of_row _ _ 5 _ _ hZ
    have r6 := cell_of_row _ _ 6 _ _ _ hZ
    have s6 := frozen_of_row _ _ 6 _ _ hZ
    have r7 := cell_of_row _ _ 7 _ _ _ hZ
    have s7 := frozen_of_row _ _ 7 _ _ hZ
    simp at r0 r1 r2 r3 r4 r5 r6 r7
    have Y3_19 : Hid (((((((((v2.setCell ⟨v1.heap.size, 0, none⟩ (.int .i64 x.i)).setCell ⟨v1.heap.size, 1, none⟩ (.int .i64 x.z)).setCell ⟨v1.heap.size, 2, none⟩ (.int .i64 x.s)).setCell ⟨v1.heap.size, 3, none⟩ (.slice x.oa x.A.length x.ca)).setCell ⟨v1.heap.size, 4, none⟩ (.int .i64 x.v)).setCell ⟨v1.heap.size, 5, none⟩ (.slice x.od x.D.length x.cd)).setCell ⟨v1.heap.size, 6, none⟩ (.int .i64 x.l)).setCell ⟨v1.heap.size, 7, none⟩ (.int .i64 x.u)).heap[v1.heap.size]? = some (.cells #[.int .i64 x.i, .int .i64 x.z, .int .i64 x.s, .slice x.oa x.A.length x.ca, .int .i64 x.v, .slice x.od x.D.length x.cd, .int .i64 x.l, .int .i64 x.u] 58)) := zA (heap_setCell_same _ (v1.heap.size) 7 _ _ (.int .i64 x.u) (heap_setCell_same _ (v1.heap.size) 6 _ _ (.int .i64 x.l) (heap_setCell_same _ (v1.heap.size) 5 _ _ (.slice x.od x.D.length x.cd) (heap_setCell_same _ (v1.heap.size) 4 _ _ (.int .i64 x.v) (heap_setCell_same _ (v1.heap.size) 3 _ _ (.slice x.oa x.A.length x.ca) (heap_setCell_same _ (v1.heap.size) 2 _ _ (.int .i64 x.s) (heap_setCell_same _ (v1.heap.size) 1 _ _ (.int .i64 x.z) (heap_setCell_same _ (v1.heap.size) 0 _ _ (.int .i64 x.i) hZ))))))))
    have HB3 := zA ((((((((HB2.out.setCell (p := ⟨v1.heap.size, 0, none⟩) (by simp; try omega) (.int .i64 x.i)).setCell (p := ⟨v1.heap.size, 1, none⟩) (by simp; try omega) (.int .i64 x.z)).setCell (p := ⟨v1.heap.size, 2, none⟩) (by simp; try omega) (.int .i64 x.s)).setCell (p := ⟨v1.heap.size, 3, none⟩) (by simp; try omega) (.slice x.oa x.A.length x.ca)).setCell (p := ⟨v1.heap.size, 4, none⟩) (by simp; try omega) (.int .i64 x.v)).setCell (p := ⟨v1.heap.size, 5, none⟩) (by simp; try omega) (.slice x.od x.D.length x.cd)).setCell (p := ⟨v1.heap.size, 6, none⟩) (by simp; try omega) (.int .i64 x.l)).setCell (p := ⟨v1.heap.size, 7, none⟩) (by simp; try omega) (.int .i64 x.u))
    have N3 := zA ((((((((N2.out.setO (p := ⟨v1.heap.size, 0, none⟩) O2_19.out (.int .i64 x.i)).setO (p := ⟨v1.heap.size, 1, none⟩) O2_19.out (.int .i64 x.z)).setO (p := ⟨v1.heap.size, 2, none⟩) O2_19.out (.int .i64 x.s)).setO (p := ⟨v1.heap.size, 3, none⟩) O2_19.out (.slice x.oa x.A.length x.ca)).setO (p := ⟨v1.heap.size, 4, none⟩) O2_19.out (.int .i64 x.v)).setO (p := ⟨v1.heap.size, 5, none⟩) O2_19.out (.slice x.od x.D.length x.cd)).setO (p := ⟨v1.heap.size, 6, none⟩) O2_19.out (.int .i64 x.l)).setO (p := ⟨v1.heap.size, 7, none⟩) O2_19.out (.int .i64 x.u))
    refine oR 20 rfl rfl fun J hJ => ?_
    go_simp
    refine hJ _ _ (HKd.out.below HB3.out) ?_
    clear hJ J hZ r0 s0 r1 s1 r2 s2 r3 s3 r4 s4 r5 s5 r6 s6 r7 s7 HB2 N2 Z2_19
    generalize ((((((((v2.setCell ⟨v1.heap.size, 0, none⟩ (.int .i64 x.i)).setCell ⟨v1.heap.size, 1, none⟩ (.int .i64 x.z)).setCell ⟨v1.heap.size, 2, none⟩ (.int .i64 x.s)).setCell ⟨v1.heap.size, 3, none⟩ (.slice x.oa x.A.length x.ca)).setCell ⟨v1.heap.size, 4, none⟩ (.int .i64 x.v)).setCell ⟨v1.heap.size, 5, none⟩ (.slice x.od x.D.length x.cd)).setCell ⟨v1.heap.size, 6, none⟩ (.int .i64 x.l)).setCell ⟨v1.heap.size, 7, none⟩ (.int .i64 x.u)) = z3 at *
    refine oR 21 rfl rfl fun J hJ => ?_
    go_simp
    refine hJ _ _ (HKd.out.below HB3.out) ?_
    clear hJ J
    refine oR 22 rfl rfl fun J hJ => ?_
    go_simp
    refine hJ _ _ (HKd.out.below HB3.out) ?_
    clear hJ J
    refine wpAnyH_done (by kernel_rfl) ?_ _
    go_wp2_with fail
    go_meet
    case rel => exact ⟨v1.heap.size, x, ot, ct, rfl, rfl, rfl, zA ⟨by omega, Y3_19.out⟩, zA (N3.out.mono (by omega)), HX, zA (HAd.out.trans (HB3.out.mono (by omega)))⟩
   ·go_simp
    have hba := (Below.refl w0.heap.size w0).alloc (Nat.le_refl _) (.cells #[.int .i64 0, .int .i64 0, .int .i64 0, .slice none 0 0, .int .i64 0, .slice none 0 0, .int .i64 0, .int .i64 0] 58)
    have HB4 := zA (hba)
    have Z4_19 : Hid ((w0.alloc (.cells #[.int .i64 0, .int .i64 0, .int .i64 0, .slice none 0 0, .int .i64 0, .slice none 0 0, .int .i64 0, .int .i64 0] 58)).heap[w0.heap.size]? = some (.cells #[.int .i64 0, .int .i64 0, .int .i64 0, .slice none 0 0, .int .i64 0, .slice none 0 0, .int .i64 0, .int .i64 0] 58)) := zA (heap_alloc_new w0 _)
    have q4 : w0.heap.size < (w0.alloc (.cells #[.int .i64 0, .int .i64 0, .int .i64 0, .slice none 0 0, .int .i64 0, .slice none 0 0, .int .i64 0, .int .i64 0] 58)).heap.size := by simp
    refine hJ _ _ (HKd.out.below HB4.out) ?_
    clear hJ J hba   
    generalize w0.alloc (.cells #[.int .i64 0, .int .i64 0, .int .i64 0, .slice none 0 0, .int .i64 0, .slice none 0 0, .int .i64 0, .int .i64 0] 58) = v4 at *
    refine oR 14 rfl rfl fun J hJ => ?_
    go_simp
    refine (HSy.out _ (HKd.out.below HB4.out)).mono ?_
    rintro e v5 ⟨⟨x, ot, ct, rfl, hN, hX⟩, hb⟩
    have HN := zA hN
    have HX := zA hX
    clear hN hX
    have HB5 := trR HB4 hb
    have Z5_19 := atR Z4_19 hb
    have O5_19 := zA (HN.out.offnew (show w0.heap.size < v4.heap.size by omega))
    have q5_19 : w0.heap.size < v5.heap.size := Nat.lt_of_lt_of_le (by omega) hb.size
    have u5 := HB5.out.size
    refine hJ _ _ (HKd.out.below HB5.out) ?_
    clear hJ J hb HB4 Z4_19
    refine yB (fuel := 3) (by kernel_rfl) (fun c d v a w h => by cases d <;> exact h) (HKd.out.below HB5.out) [15, 16, 17, 18] _ _ (by kernel_rfl) ?_
    refine pS (.tuple #[gtV x.i x.z x.s x.oa x.A.length x.ca x.v x.od x.D.length x.cd x.l x.u, .slice ot ML.length ct, .int .i64 E1]) rfl rfl ?_
    refine pS (gtV x.i x.z x.s x.oa x.A.length x.ca x.v x.od x.D.length x.cd x.l x.u) rfl rfl ?_
    refine pS (.slice ot ML.length ct) rfl rfl ?_
    refine pS (.int .i64 E1) rfl rfl ?_
    refine zE ?_
    have hZ := Z5_19.out
    have r0 := cell_of_row _ _ 0 _ _ _ hZ
    have s0 := frozen_of_row _ _ 0 _ _ hZ
    have r1 := cell_of_row _ _ 1 _ _ _ hZ
    have s1 := frozen_of_row _ _ 1 _ _ hZ
    have r2 := cell_of_row _ _ 2 _ _ _ hZ
    have s2 := frozen_of_row _ _ 2 _ _ hZ
    have r3 := cell_of_row _ _ 3 _ _ _ hZ
    have s3 := frozen_of_row _ _ 3 _ _ hZ
    have r4 := cell_of_row _ _ 4 _ _ _ hZ
    have s4 := frozen_of_row _ _ 4 _ _ hZ
    have r5 := cell_of_row _ _ 5 _ _ _ hZ
    have s5 := frozen_of_row _ _ 5 _ _ hZ
    have r6 := cell_of_row _ _ 6 _ _ _ hZ
    have s6 := frozen_of_row _ _ 6 _ _ hZ
    have r7 := cell_of_row _ _ 7 _ _ _ hZ
    have s7 := frozen_of_row _ _ 7 _ _ hZ
    simp at r0 r1 r2 r3 r4 r5 r6 r7
    have Y6_19 : Hid (((((((((v5.setCell ⟨w0.heap.size, 0, none⟩ (.int .i64 x.i)).setCell ⟨w0.heap.size, 1, none⟩ (.int .i64 x.z)).setCell ⟨w0.heap.size, 2, none⟩ (.int .i64 x.s)).setCell ⟨w0.heap.size, 3, none⟩ (.slice x.oa x.A.length x.ca)).setCell ⟨w0.heap.size, 4, none⟩ (.int .i64 x.v)).setCell ⟨w0.heap.size, 5, none⟩ (.slice x.od x.D.length x.cd)).setCell ⟨w0.heap.size, 6, none⟩ (.int .i64 x.l)).setCell ⟨w0.heap.size, 7, none⟩ (.int .i64 x.u)).heap[w0.heap.size]? = some (.cells #[.int .i64 x.i, .int .i64 x.z, .int .i64 x.s, .slice x.oa x.A.length x.ca, .int .i64 x.v, .slice x.od x.D.length x.cd, .int .i64 x.l, .int .i64 x.u] 58)) := zA (heap_setCell_same _ (w0.heap.size) 7 _ _ (.int .i64 x.u) (heap_setCell_same _ (w0.heap.size) 6 _ _ (.int .i64 x.l) (heap_setCell_same _ (w0.heap.size) 5 _ _ (.slice x.od x.D.length x.cd) (heap_setCell_same _ (w0.heap.size) 4 _ _ (.int .i64 x.v) (heap_setCell_same _ (w0.heap.size) 3 _ _ (.slice x.oa x.A.length x.ca) (heap_setCell_same _ (w0.heap.size) 2 _ _ (.int .i64 x.s) (heap_setCell_same _ (w0.heap.size) 1 _ _ (.int .i64 x.z) (heap_setCell_same _ (w0.heap.size) 0 _ _ (.int .i64 x.i) hZ))))))))
    have HB6 := zA ((((((((HB5.out.setCell (p := ⟨w0.heap.size, 0, none⟩) (by simp; try omega) (.int .i64 x.i)).setCell (p := ⟨w0.heap.size, 1, none⟩) (by simp; try omega) (.int .i64 x.z)).setCell (p := ⟨w0.heap.size, 2, none⟩) (by simp; try omega) (.int .i64 x.s)).setCell (p := ⟨w0.heap.size, 3, none⟩) (by simp; try omega) (.slice x.oa x.A.length x.ca)).setCell (p := ⟨w0.heap.size, 4, none⟩) (by simp; try omega) (.int .i64 x.v)).setCell (p := ⟨w0.heap.size, 5, none⟩) (by simp; try omega) (.slice x.od x.D.length x.cd)).setCell (p := ⟨w0.heap.size, 6, none⟩) (by simp; try omega) (.int .i64 x.l)).setCell (p := ⟨w0.heap.size, 7, none⟩) (by simp; try omega) (.int .i64 x.u))
    have N6 := zA ((((((((HN.out.setO (p := ⟨w0.heap.size, 0, none⟩) O5_19.out (.int .i64 x.i)).setO (p := ⟨w0.heap.size, 1, none⟩) O5_19.out (.int .i64 x.z)).setO (p := ⟨w0.heap.size, 2, none⟩) O5_19.out (.int .i64 x.s)).setO (p := ⟨w0.heap.size, 3, none⟩) O5_19.out (.slice x.oa x.A.length x.ca)).setO (p := ⟨w0.heap.size, 4, none⟩) O5_19.out (.int .i64 x.v)).setO (p := ⟨w0.heap.size, 5, none⟩) O5_19.out (.slice x.od x.D.length x.cd)).setO (p := ⟨w0.heap.size, 6, none⟩) O5_19.out (.int .i64 x.l)).setO (p := ⟨w0.heap.size, 7, none⟩) O5_19.out (.int .i64 x.u))
    refine oR 20 rfl rfl fun J hJ => ?_
    go_simp
    refine hJ _ _ (HKd.out.below HB6.out) ?_
    clear hJ J hZ r0 s0 r1 s1 r2 s2 r3 s3 r4 s4 r5 s5 r6 s6 r7 s7 HB5 HN Z5_19
    generalize ((((((((v5.setCell ⟨w0.heap.size, 0, none⟩ (.int .i64 x.i)).setCell ⟨w0.heap.size, 1, none⟩ (.int .i64 x.z)).setCell ⟨w0.heap.size, 2, none⟩ (.int .i64 x.s)).setCell ⟨w0.heap.size, 3, none⟩ (.slice x.oa x.A.length x.ca)).setCell ⟨w0.heap.size, 4, none⟩ (.int .i64 x.v)).setCell ⟨w0.heap.size, 5, none⟩ (.slice x.od x.D.length x.cd)).setCell ⟨w0.heap.size, 6, none⟩ (.int .i64 x.l)).setCell ⟨w0.heap.size, 7, none⟩ (.int .i64 x.u)) = z6 at *
    refine oR 21 rfl rfl fun J hJ => ?_
    go_simp
    refine hJ _ _ (HKd.out.below HB6.out) ?_
    clear hJ J
    refine oR 22 rfl rfl fun J hJ => ?_
    go_simp
    refine hJ _ _ (HKd.out.below HB6.out) ?_
    clear hJ J
    refine wpAnyH_done (by kernel_rfl) ?_ _
    go_wp2_with fail
    go_meet
    case rel => exact ⟨w0.heap.size, x, ot, ct, rfl, rfl, rfl, zA ⟨by omega, Y6_19.out⟩, zA (N6.out.mono (by omega)), HX, zA (HAd.out.trans (HB6.out.mono (by omega)))⟩
  case rest =>
   obtain ⟨b, x, ot, ct, rfl, rfl, rfl, HZ, HT, HX, HB⟩ := hcut
   have HK2 := zA (HK1.out.below HB.out)
   have HA2 := zA (HA1.out.trans (HB.out.mono HA1.out.size))
   have hs1 := HA1.out.size
   clear HK1 HA1 HSy
   rcases hE : (E1 != 0) with _ | _
   ·obtain rfl : E1 = 0 := by simpa using hE
    have hml := HML.out
    rw [if_pos rfl] at hml
    subst hml
    have hre := HRE.out
    rw [if_pos rfl] at hre
    have HRE2 := zA hre
    have HX0 := zA (HX.out rfl)
    clear HML HRE hre HX
    have k0 := HK2.out.c0
    have k1 := HK2.out.c1
    have k2 := HK2.out.c2
    go_wp2_with fail
    refine (HIn.out _ HK2.out ot ct HT.out.2.1).mono ?_
    rintro e w2 ⟨⟨lv, od, nd, cd, rfl, hN, hM, hMf⟩, hb⟩
    obtain ⟨x1, y1, x2, y2, x3, y3, rfl, hN6⟩ := hN.led6
    obtain ⟨od', cd', hM1, hM2⟩ := hM
    simp only [Value.slice.injEq] at hM1
    obtain ⟨rfl, rfl, rfl⟩ := hM1
    have HL := zA hN6
    have HM := zA (And.intro (show zR w2 (.slice od ID.length cd) ID from ⟨_, _, rfl, hM2⟩) hMf)
    have HK3 := zA (HK2.out.below hb)
    have HA3 := trR HA2 hb
    have HT3 := zA (HT.out.1.below hb)
    have HZ3 := zA (zC HZ.out.2 hb)
    have hbb : w1.heap.size ≤ b := HZ.out.1
    have hbc : b < wc.heap.size := (Array.getElem?_eq_some_iff.1 HZ.out.2).1
    have hs2 : wc.heap.size ≤ w2.heap.size := hb.size
    clear hb hN hN6 hM2 hMf HK2 HA2 HT HZ HB k0 k1 k2 HIn
    rcases hE2 : (E2 != 0) with _ | _
    ·obtain rfl : E2 = 0 := by simpa using hE2
     have HB0 := zA ((Below.refl w2.heap.size w2).alloc (Nat.le_refl _) (.cells #[.slice x1 IT.length y1, .slice x2 IP.length y2, .slice x3 IV.length y3] 26))
     have k0 := HK3.out.c0
     have k1 := HK3.out.c1
     have k2 := HK3.out.c2
     have z0 := HK3.out.fz 0
     have z1 := HK3.out.fz 1
     have z2 := HK3.out.fz 2
     go_upto_region 11 with fail
     have HZl := zA (heap_alloc_new w2 (.cells #[.slice x1 IT.length y1, .slice x2 IP.length y2, .slice x3 IV.length y3] 26))
     have HK4 := zA (HK3.out.below HB0.out)
     have HL4 := zA (HL.out.below HB0.out)
     have HM4 := zA (And.intro (HM.out.1.below HB0.out) HM.out.2)
     have HT4 := zA (HT3.out.below HB0.out)
     have HZ4 := zA (zC HZ3.out HB0.out)
     have HA4 := zA (HA3.out.trans (HB0.out.mono HA3.out.size))
     have hs3 : w2.heap.size < (w2.alloc (.cells #[.slice x1 IT.length y1, .slice x2 IP.length y2, .slice x3 IV.length y3] 26)).heap.size := by simp
     clear HK3 HL HM HT3 HZ3 HA3 k0 k1 k2 z0 z1 z2
     generalize w2.alloc (.cells #[.slice x1 IT.length y1, .slice x2 IP.length y2, .slice x3 IV.length y3] 26) = w3 at *
     have r0 := cell_of_row _ _ 0 _ _ _ HZl.out
     have r1 := cell_of_row _ _ 1 _ _ _ HZl.out
     have r2 := cell_of_row _ _ 2 _ _ _ HZl.out
     simp at r0 r1 r2
     have k0 := HK4.out.c0
     have k1 := HK4.out.c1
     have k2 := HK4.out.c2
     have z0 := HK4.out.fz 0
     have z1 := HK4.out.fz 1
     have z2 := HK4.out.fz 2
     go_upto_region 12 with fail
     have HK5 := zA (HK4.out.setLed ⟨HL4.out.1.1, .new HL4.out.1.2 (by omega) (by omega) (by omega)⟩ ⟨HL4.out.2.1.1, .new HL4.out.2.1.2 (by omega) (by omega) (by omega)⟩ ⟨HL4.out.2.2.1, .new HL4.out.2.2.2 (by omega) (by omega) (by omega)⟩)
     have HLf := zA (And.intro HL4.out.1.2 (And.intro HL4.out.2.1.2 HL4.out.2.2.2))
     have HF5 := zA ((((Kq.ofBelow HA4.out (S := KQ K Q)).setCell (p := ⟨K, 0, none⟩) (.inl rfl) (.slice x1 IT.length y1)).setCell (p := ⟨K, 1, none⟩) (.inl rfl) (.slice x2 IP.length y2)).setCell (p := ⟨K, 2, none⟩) (.inl rfl) (.slice x3 IV.length y3))
     have oK : Off od ID K := zQ HM4.out.2 (by omega)
     have oQ : Off od ID Q := zQ HM4.out.2 (by omega)
     have ob : Off od ID b := zQ HM4.out.2 (by omega)
     have HM5 := zA (((HM4.out.1.setO (p := ⟨K, 0, none⟩) oK (.slice x1 IT.length y1)).setO (p := ⟨K, 1, none⟩) oK (.slice x2 IP.length y2)).setO (p := ⟨K, 2, none⟩) oK (.slice x3 IV.length y3))
     have HO := zA (And.intro oK (And.intro oQ ob))
     have HMf := zA HM4.out.2
     have HT5 := zA (((HT4.out.setO (p := ⟨K, 0, none⟩) (HT4.out.offnew (by simp; omega)) (.slice x1 IT.length y1)).setO (p := ⟨K, 1, none⟩) (HT4.out.offnew (by simp; omega)) (.slice x2 IP.length y2)).setO (p := ⟨K, 2, none⟩) (HT4.out.offnew (by simp; omega)) (.slice x3 IV.length y3))
     have HZ5 := zA (zD (zD (zD HZ4.out (p := ⟨K, 0, none⟩) (by simp; omega) (.slice x1 IT.length y1)) (p := ⟨K, 1, none⟩) (by simp; omega) (.slice x2 IP.length y2)) (p := ⟨K, 2, none⟩) (by simp; omega) (.slice x3 IV.length y3))
     have hs5 : w3.heap.size ≤ (((w3.setCell ⟨K, 0, none⟩ (.slice x1 IT.length y1)).setCell ⟨K, 1, none⟩ (.slice x2 IP.length y2)).setCell ⟨K, 2, none⟩ (.slice x3 IV.length y3)).heap.size := by simp only [World.size_setCell]; exact Nat.le_refl _
     clear HK4 HL4 HM4 HT4 HZ4 HA4 HZl r0 r1 r2 k0 k1 k2 z0 z1 z2 oK oQ ob HB0
     generalize (((w3.setCell ⟨K, 0, none⟩ (.slice x1 IT.length y1)).setCell ⟨K, 1, none⟩ (.slice x2 IP.length y2)).setCell ⟨K, 2, none⟩ (.slice x3 IV.length y3)) = w4 at *
     go_wp2_with fail
     refine (keeperDeny_any K Q B _ IT IP IV dv D G W od cd ID w4 HK5.out HM5.out.ats HO.out.1 HO.out.2.1 (by have := HIl.out; omega) (by omega)).mono ?_
     rintro e w5 ⟨⟨rfl, a5, hk5, hl5, ha5, ho5⟩, hf5⟩
     obtain ⟨DV, hDV⟩ : ∃ DV, DV = (yC ID dv D).1 := ⟨_, rfl⟩
     obtain ⟨DD, hDD⟩ : ∃ DD, DD = (yC ID dv D).2 := ⟨_, rfl⟩
     rw [← hDV, ← hDD] at hk5
     rw [← hDD] at hl5 ho5
     have HDE := zA (And.intro hDV hDD)
     clear hDV hDD
     have HF6 := zA (HF5.out.trans hf5)
     have HM6 := zA (HM5.out.kq hf5 (fun x hx => by rcases hx with rfl | rfl <;> first | exact HO.out.1 | exact HO.out.2.1))
     have HZ6 := zA (hf5.obj HZ5.out (fun hx => by rcases hx with h | h <;> omega))
     have HT6 := zA (And.intro HT5.out.1.1.eqs.2.2 (show x.A = [] from by have := congrArg GP.A HX0.out; rw [HGX.out] at this; exact this))
     have HTf := zA (HT5.out.1.2.mono (show B ≤ w1.heap.size by omega))
     have HK6 := zA hk5
     have HA6 := zA (And.intro ha5 ho5)
     have hs6 : w4.heap.size ≤ w5.heap.size := hf5.size
     clear hf5 hk5 ha5 ho5 HM5 HZ5 HT5 HF5 HK5
     have k3 := HK6.out.c3
     have k4 := HK6.out.c4
     go_wp2_with fail
     refine (freshList_any DV DD a5.od a5.cd w5 HK6.out.kl.den.1.ats (by omega)).mono ?_
     rintro e w6 ⟨⟨o6, c6, rfl, hi, hf⟩, hb⟩
     have HK7 := zA (HK6.out.below hb)
     have HF7 := zA (HF6.out.on hb)
     have HM7 := zA (HM6.out.below hb)
     have HZ7 := atR HZ6 hb
     have HD7 := zA (And.intro hi hf)
     have hs7 : w5.heap.size ≤ w6.heap.size := hb.size
     clear hi hf hb HK6 HF6 HM6 HZ6 k3 k4
     have r4 := cell_of_row _ _ 4 _ _ _ HZ7.out
     have r5 := cell_of_row _ _ 5 _ _ _ HZ7.out
     have t4 := frozen_of_row _ _ 4 _ _ HZ7.out
     have t5 := frozen_of_row _ _ 5 _ _ HZ7.out
     simp at r4 r5
     go_upto_region 14 with fail
     have HZ8 := zA (heap_setCell_same _ b 5 _ _ (.slice o6 DD.length c6) (heap_setCell_same w6 b 4 _ _ (.int .i64 DV) HZ7.out))
     have hoff : KOff a5 IT IP IV DD G W b := by
      have h0 := HK0.out.offge (X := b) (by omega)
      have hd := HA6.out.2 b (by omega) h0.2.2.2.1
      have e5 := HA6.out.1
      refine ⟨?_, ?_, ?_, hd, ?_, h0.2.2.2.2.2⟩
      ·rw [e5]; exact zQ HLf.out.1 (by omega)
      ·rw [e5]; exact zQ HLf.out.2.1 (by omega)
      ·rw [e5]; exact zQ HLf.out.2.2 (by omega)
      ·rw [e5]; exact h0.2.2.2.2.1
     have HK8 := zA ((HK7.out.setX (p := ⟨b, 4, none⟩) hoff (by simp; omega) (by simp; omega) (.int .i64 DV)).setX (p := ⟨b, 5, none⟩) hoff (by simp; omega) (by simp; omega) (.slice o6 DD.length c6))
     have HF8 := zA ((HF7.out.setNew (p := ⟨b, 4, none⟩) (by simp; omega) (.int .i64 DV)).setNew (p := ⟨b, 5, none⟩) (by simp; omega) (.slice o6 DD.length c6))
     have HM8 := zA ((HM7.out.setO (p := ⟨b, 4, none⟩) HO.out.2.2 (.int .i64 DV)).setO (p := ⟨b, 5, none⟩) HO.out.2.2 (.slice o6 DD.length c6))
     have od6 : Off o6 DD b := zQ HD7.out.2 (by omega)
     have HD8 := zA (And.intro ((HD7.out.1.setO (p := ⟨b, 4, none⟩) od6 (.int .i64 DV)).setO (p := ⟨b, 5, none⟩) od6 (.slice o6 DD.length c6)) HD7.out.2)
     have hs8 : w6.heap.size ≤ ((w6.setCell ⟨b, 4, none⟩ (.int .i64 DV)).setCell ⟨b, 5, none⟩ (.slice o6 DD.length c6)).heap.size := by simp only [World.size_setCell]; exact Nat.le_refl _
     clear HK7 HF7 HM7 HZ7 HD7 r4 r5 t4 t5 od6 hoff
     generalize (w6.setCell ⟨b, 4, none⟩ (.int .i64 DV)).setCell ⟨b, 5, none⟩ (.slice o6 DD.length c6) = w7 at *
     refine zJ (fun w' => w'.heap[K]? = some (boxK a5 Q IT IP IV DV DD G W 92) ∧ w'.heap[b]? = some (.cells #[.int .i64 x.i, .int .i64 x.z, .int .i64 x.s, .slice x.oa x.A.length x.ca, .int .i64 DV, .slice o6 DD.length c6, .int .i64 x.l, .int .i64 x.u] 58)) [0, 1, 2, 3, 4, 5, 6, 7] 1 (by rfl) (by kernel_rfl) (by kernel_rfl) (by kernel_rfl) (fun c d v a w h => by cases d <;> exact h) ?_ ?_
     ·exact ⟨zC HK8.out.box (Below.refl _ _).drew, zC HZ8.out (Below.refl _ _).drew⟩
     refine zB (.pointer (some ⟨K, 0, none⟩)) rfl rfl (fun w' hS => ?_) ?_
     ·go_simp
     refine zB (.pointer (some ⟨K, 0, none⟩)) rfl rfl (fun w' hS => ?_) ?_
     ·go_simp
     refine zB (.pointer (some ⟨K, 0, none⟩)) rfl rfl (fun w' hS => ?_) ?_
     ·go_simp
     refine zB (.pointer (some ⟨K, 5, none⟩)) rfl rfl (fun w' hS => ?_) ?_
     ·go_simp
     refine zB (.slice (some ⟨Q, 0, none⟩) G.length a5.cg) rfl rfl (fun w' hS => ?_) ?_
     ·have k5 : w'.cell? ⟨K, 5, none⟩ = some (.slice (some ⟨Q, 0, none⟩) G.length a5.cg) := by rw [cell_of_row _ _ 5 _ _ _ hS.1]; rfl
      go_simp
     refine zB (.int .i64 (q : Int)) rfl rfl (fun w' hS => ?_) ?_
     ·go_simp
     refine zB (gtV x.i x.z x.s x.oa x.A.length x.ca DV o6 DD.length c6 x.l x.u) rfl rfl (fun w' hS => ?_) ?_
     ·have x0 : w'.cell? ⟨b, 0, none⟩ = some (.int .i64 x.i) := by rw [cell_of_row _ _ 0 _ _ _ hS.2]; rfl
      have x1 : w'.cell? ⟨b, 1, none⟩ = some (.int .i64 x.z) := by rw [cell_of_row _ _ 1 _ _ _ hS.2]; rfl
      have x2 : w'.cell? ⟨b, 2, none⟩ = some (.int .i64 x.s) := by rw [cell_of_row _ _ 2 _ _ _ hS.2]; rfl
      have x3 : w'.cell? ⟨b, 3, none⟩ = some (.slice x.oa x.A.length x.ca) := by rw [cell_of_row _ _ 3 _ _ _ hS.2]; rfl
      have x4 : w'.cell? ⟨b, 4, none⟩ = some (.int .i64 DV) := by rw [cell_of_row _ _ 4 _ _ _ hS.2]; rfl
      have x5 : w'.cell? ⟨b, 5, none⟩ = some (.slice o6 DD.length c6) := by rw [cell_of_row _ _ 5 _ _ _ hS.2]; rfl
      have x6 : w'.cell? ⟨b, 6, none⟩ = some (.int .i64 x.l) := by rw [cell_of_row _ _ 6 _ _ _ hS.2]; rfl
      have x7 : w'.cell? ⟨b, 7, none⟩ = some (.int .i64 x.u) := by rw [cell_of_row _ _ 7 _ _ _ hS.2]; rfl
      go_simp
     refine zB (.pointer (some ⟨Q, q * 8, none⟩)) rfl rfl (fun w' hS => ?_) ?_
     ·go_simp
     refine zE ?_
     have HKd := zA (HK8.out.below (Below.refl _ _).drew)
     have HZd := zA (zC HZ8.out (Below.refl _ _).drew)
     have HFd := zA (HF8.out.on (Below.refl _ _).drew)
     have HMd := zA (HM8.out.below (Below.refl _ _).drew)
     have HDd := zA (And.intro (HD8.out.1.below (Below.refl _ _).drew) HD8.out.2)
     clear HK8 HZ8 HF8 HM8 HD8
     generalize (World.drew _) = w8 at *
     have g0 := HKd.out.g0 Hq.out
     have g1 := HKd.out.g1 Hq.out
     have g2 := HKd.out.g2 Hq.out
     have g3 := HKd.out.g3 Hq.out
     have g4 := HKd.out.g4 Hq.out
     have g5 := HKd.out.g5 Hq.out
     have g6 := HKd.out.g6 Hq.out
     have g7 := HKd.out.g7 Hq.out
     have f0 := HKd.out.row.frozenAt (q * 8)
     have f1 := HKd.out.row.frozenAt (q * 8 + 1)
     have f2 := HKd.out.row.frozenAt (q * 8 + 2)
     have f3 := HKd.out.row.frozenAt (q * 8 + 3)
     have f4 := HKd.out.row.frozenAt (q * 8 + 4)
     have f5 := HKd.out.row.frozenAt (q * 8 + 5)
     have f6 := HKd.out.row.frozenAt (q * 8 + 6)
     have f7 := HKd.out.row.frozenAt (q * 8 + 7)
     refine oR 8 rfl rfl fun J hJ => ?_
     go_simp
     have HTA : Hid (zR w8 (.slice x.oa x.A.length x.ca) x.A ∧ LK B K Q x.oa x.ca x.A) := by
      obtain ⟨⟨t1, t2⟩, t3⟩ := HT6.out
      refine zA ⟨⟨x.oa, x.ca, rfl, fun i p hi => by rw [t3] at hi; simp at hi, t1, t2⟩, ?_, ?_, ?_⟩
      ·exact fun k hk => HTf.out k hk
      ·exact fun A _ hne => absurd t3 hne
      ·exact fun A _ hne => absurd t3 hne
     have HKz := zA (HKd.out.setGate q g { x with v := DV, od := o6, D := DD, cd := c6 } Hq.out HTA.out ⟨HDd.out.1, .new HDd.out.2 (by omega) (by omega) (by omega)⟩)
     have HFz := zA ((((((((HFd.out.setCell (p := ⟨Q, q * 8, none⟩) (.inr rfl) (.int .i64 x.i)).setCell (p := ⟨Q, q * 8 + 1, none⟩) (.inr rfl) (.int .i64 x.z)).setCell (p := ⟨Q, q * 8 + 2, none⟩) (.inr rfl) (.int .i64 x.s)).setCell (p := ⟨Q, q * 8 + 3, none⟩) (.inr rfl) (.slice x.oa x.A.length x.ca)).setCell (p := ⟨Q, q * 8 + 4, none⟩) (.inr rfl) (.int .i64 DV)).setCell (p := ⟨Q, q * 8 + 5, none⟩) (.inr rfl) (.slice o6 DD.length c6)).setCell (p := ⟨Q, q * 8 + 6, none⟩) (.inr rfl) (.int .i64 x.l)).setCell (p := ⟨Q, q * 8 + 7, none⟩) (.inr rfl) (.int .i64 x.u))
     have HMz := zA ((((((((HMd.out.setO (p := ⟨Q, q * 8, none⟩) HO.out.2.1 (.int .i64 x.i)).setO (p := ⟨Q, q * 8 + 1, none⟩) HO.out.2.1 (.int .i64 x.z)).setO (p := ⟨Q, q * 8 + 2, none⟩) HO.out.2.1 (.int .i64 x.s)).setO (p := ⟨Q, q * 8 + 3, none⟩) HO.out.2.1 (.slice x.oa x.A.length x.ca)).setO (p := ⟨Q, q * 8 + 4, none⟩) HO.out.2.1 (.int .i64 DV)).setO (p := ⟨Q, q * 8 + 5, none⟩) HO.out.2.1 (.slice o6 DD.length c6)).setO (p := ⟨Q, q * 8 + 6, none⟩) HO.out.2.1 (.int .i64 x.l)).setO (p := ⟨Q, q * 8 + 7, none⟩) HO.out.2.1 (.int .i64 x.u))
     refine hJ _ _ ?_ ?_
     ·have hne' : Q ≠ K := fun e => HKd.out.ne e.symm
      have hnb : Q ≠ b := by omega
      exact ⟨(zD (zD (zD (zD (zD (zD (zD (zD HKd.out.box (p := ⟨Q, q * 8, none⟩) hne' (.int .i64 x.i)) (p := ⟨Q, q * 8 + 1, none⟩) hne' (.int .i64 x.z)) (p := ⟨Q, q * 8 + 2, none⟩) hne' (.int .i64 x.s)) (p := ⟨Q, q * 8 + 3, none⟩) hne' (.slice x.oa x.A.length x.ca)) (p := ⟨Q, q * 8 + 4, none⟩) hne' (.int .i64 DV)) (p := ⟨Q, q * 8 + 5, none⟩) hne' (.slice o6 DD.length c6)) (p := ⟨Q, q * 8 + 6, none⟩) hne' (.int .i64 x.l)) (p := ⟨Q, q * 8 + 7, none⟩) hne' (.int .i64 x.u)), (zD (zD (zD (zD (zD (zD (zD (zD HZd.out (p := ⟨Q, q * 8, none⟩) hnb (.int .i64 x.i)) (p := ⟨Q, q * 8 + 1, none⟩) hnb (.int .i64 x.z)) (p := ⟨Q, q * 8 + 2, none⟩) hnb (.int .i64 x.s)) (p := ⟨Q, q * 8 + 3, none⟩) hnb (.slice x.oa x.A.length x.ca)) (p := ⟨Q, q * 8 + 4, none⟩) hnb (.int .i64 DV)) (p := ⟨Q, q * 8 + 5, none⟩) hnb (.slice o6 DD.length c6)) (p := ⟨Q, q * 8 + 6, none⟩) hnb (.int .i64 x.l)) (p := ⟨Q, q * 8 + 7, none⟩) hnb (.int .i64 x.u))⟩
     have hxx : ({ x with v := DV, od := o6, D := DD, cd := c6 } : GT).p = ⟨g.i, g.z, g.s, [], DV, DD, 9, m + 100⟩ := by
      have hx := HX0.out
      rw [HGX.out] at hx
      simp only [GT.p, GP.mk.injEq] at hx ⊢
      exact ⟨hx.1, hx.2.1, hx.2.2.1, hx.2.2.2.1, trivial, trivial, hx.2.2.2.2.2.2.1, hx.2.2.2.2.2.2.2⟩
     have HXX := zA hxx
     clear hJ J g0 g1 g2 g3 g4 g5 g6 g7 f0 f1 f2 f3 f4 f5 f6 f7 HKd HFd HMd HDd HZd hxx
     generalize ((((((((w8.setCell ⟨Q, q * 8, none⟩ (.int .i64 x.i)).setCell ⟨Q, q * 8 + 1, none⟩ (.int .i64 x.z)).setCell ⟨Q, q * 8 + 2, none⟩ (.int .i64 x.s)).setCell ⟨Q, q * 8 + 3, none⟩ (.slice x.oa x.A.length x.ca)).setCell ⟨Q, q * 8 + 4, none⟩ (.int .i64 DV)).setCell ⟨Q, q * 8 + 5, none⟩ (.slice o6 DD.length c6)).setCell ⟨Q, q * 8 + 6, none⟩ (.int .i64 x.l)).setCell ⟨Q, q * 8 + 7, none⟩ (.int .i64 x.u)) = wz at *
     refine wpAnyH_done (by kernel_rfl) ?_ _
     go_wp2_with fail
     go_ret2
     have hr0 : RE = 0 := HRE2.out
     exact ⟨⟨RE, ID, od, cd, rfl, by rw [if_pos hr0], by rw [hr0]; rfl, ⟨HMz.out, HMf.out.mono (by omega)⟩, fun h => absurd hr0 h, fun _ => ⟨_, _, by rw [← HDE.out.1, ← HDE.out.2]; exact HXX.out, by rw [← HDE.out.1, ← HDE.out.2]; exact HKz.out⟩⟩, HFz.out⟩
    ·have hE2' : ¬ E2 = 0 := by simpa using hE2
     go_wp2_with fail
     go_ret2
     have hr : ¬ RE = 0 := by rw [HRE2.out]; exact hE2'
     exact ⟨⟨RE, [], none, 0, rfl, by rw [if_neg hr], by rw [HRE2.out]; rfl, ⟨⟨none, 0, rfl, fun i p h => by simp at h, by simp, fun _ => rfl⟩, fun k hk => by simp [Value.ownBlock] at hk⟩, fun _ => HK3.out.below ((Below.refl w2.heap.size w2).alloc (Nat.le_refl _) _), fun h => absurd h hr⟩, .ofBelow (HA3.out.trans (((Below.refl w2.heap.size w2).alloc (Nat.le_refl _) _).mono HA3.out.size))⟩
   ·have hE' : ¬ E1 = 0 := by simpa using hE
    have hre := HRE.out
    rw [if_neg hE'] at hre
    have hr : ¬ RE = 0 := by rw [hre]; exact hE'
    have HRE2 := zA hre
    clear hre HRE
    go_wp2_with fail
    go_ret2
    exact ⟨⟨RE, [], none, 0, rfl, by rw [if_neg hr], by rw [HRE2.out]; rfl, ⟨⟨none, 0, rfl, fun i p h => by simp at h, by simp, fun _ => rfl⟩, fun k hk => by simp [Value.ownBlock] at hk⟩, fun _ => HK2.out, fun h => absurd h hr⟩, .ofBelow HA2.out⟩
def gSync (g : GP) (v : Int) (D : List Int) (m : Int) : GP := ⟨g.i, g.z, g.s, [], v, D, 9, m + 100⟩
def xZ (T : List TK) (P : List TP) (V : List Int) (dv : Int) (D : List Int) (L : List GP) (W : List VW) (n m : Int) : Int := if wi n 0 2 = false then 3 else syncK T P V dv D W (gAt L n) m
def syncS (T : List TK) (P : List TP) (V : List Int) (dv : Int) (D : List Int) (G : List GT) (W : List VW) (n m : Int) : Int := if yP T P V dv D G W = 0 then xZ T P V dv D (G.map GT.p) W n m else yP T P V dv D G W
def zS (T : List TK) (P : List TP) (V : List Int) (L : List GP) (n E : Int) : List TP := if E = 0 then qL T P V (gAt L n).A else []
theorem denA_len : ∀ (M : List TP) (v : Int) (D : List Int), D.length ≤ 60 → (yC M v D).2.length ≤ 60
 | [], v, D, h => h
 | p :: M, v, D, h => by
  rw [yC]
  by_cases hE : addE v D p.a = 0
  ·rw [if_pos hE]
   exact denA_len M _ _ (by rw [addI_len]; have := add_room hE; omega)
  ·rw [if_neg hE]
   exact denA_len M v D h
theorem bldA_lensP (T : List TK) : ∀ (L P : List TP) (V : List Int) (D : List TP), (jJ T L P V D).2.1.length ≤ P.length + L.length ∧ (jJ T L P V D).2.2.1.length ≤ V.length + L.length
 | [], P, V, D => by simp [jJ]
 | p :: L, P, V, D => by
  rw [jJ]
  by_cases h : bldE T P V p = 0
  ·rw [if_pos h]
   have h1 := bldA_lensP T L (bldP T P V p) (bldV T P V p) (bldD T P V D p)
   have h2 : (bldP T P V p).length ≤ P.length + 1 := by
    unfold bldP
    split
    ·simp
    ·omega
   have h3 : (bldV T P V p).length ≤ V.length + 1 := by
    unfold bldV
    split
    ·simp
    ·omega
   simp only [List.length_cons]
   omega
  ·rw [if_neg h]
   simp only [List.length_cons]
   omega
theorem into_lnS (T : List TK) (P : List TP) (V : List Int) (M : List TP) (hT : T.length ≤ 12) (hP : P.length ≤ 60) (hM : M.length ≤ 12) : xP (xV T P V M) (xR T P V M) (xY T P V M) := by
 have h := bldA_lensP T (srt (P ++ M)) [] [] []
 have h2 : (srt (P ++ M)).length = P.length + M.length := by simp [srt]
 simp only [List.length_nil] at h
 refine ⟨?_, ?_, ?_⟩
 ·unfold xV
  split
  ·omega
  ·simp
 ·unfold xR qD
  split
  ·omega
  ·simp
 ·unfold xY qD
  split
  ·omega
  ·simp
theorem sync1_any (K Q B : Nat) (a : KA) (T : List TK) (P : List TP) (V : List Int) (dv : Int) (D : List Int) (G : List GT) (W : List VW) (b2 b3 vb : Nat) (n m : Int) (v0 : Value) (w : World) (hK : Ks w K Q B a T P V dv D G W) (hG : G.length = 3) (hg : ∀ (q : Nat) g, G[q]? = some g → g.A.length ≤ 12 ∧ g.D.length ≤ 12 ∧ 0 ≤ g.s ∧ g.s ≤ 99) (hl : xP T P V) (hlP : P.length ≤ 60) (hlD : D.length ≤ 12) (hlW : W.length ≤ 9223372036854775807)
  (h2 : w.heap[b2]? = some (.cells #[.int .i64 n] 3)) (h3 : w.heap[b3]? = some (.cells #[.int .i64 m] 3)) (hv : w.heap[vb]? = some (.cells #[v0] 23)) (hvb : vb < B) :
  Calls Tryz.prog 61 #[.pointer (some ⟨K, 0, none⟩), .pointer (some ⟨b2, 0, none⟩), .pointer (some ⟨b3, 0, none⟩), .pointer (some ⟨vb, 0, none⟩)] w fun e w' => ∃ E o c, E = xZ T P V dv D (G.map GT.p) W n m ∧ e = .returned (.int .i64 E) ∧ w'.heap[vb]? = some (.cells #[.slice o (zS T P V (G.map GT.p) n E).length c] 23) ∧ (zR w' (.slice o (zS T P V (G.map GT.p) n E).length c) (zS T P V (G.map GT.p) n E) ∧ zK w.heap.size (.slice o (zS T P V (G.map GT.p) n E).length c)) ∧ Kq (fun k => k = K ∨ k = Q ∨ k = vb) w w' ∧ (E ≠ 0 → Ks w' K Q B a T P V dv D G W) ∧
   (E = 0 → ∃ a' G', Ks w' K Q B a' (xV T P V (gAt (G.map GT.p) n).A) (xR T P V (gAt (G.map GT.p) n).A) (xY T P V (gAt (G.map GT.p) n).A) (yC (zS T P V (G.map GT.p) n 0) dv D).1 (yC (zS T P V (G.map GT.p) n 0) dv D).2 G' W ∧ G'.map GT.p = (G.map GT.p).set n.toNat (gSync (gAt (G.map GT.p) n) (yC (zS T P V (G.map GT.p) n 0) dv D).1 (yC (zS T P V (G.map GT.p) n 0) dv D).2 m) ∧ ∀ (q : Nat) g, G'[q]? = some g → g.A.length ≤ 13 ∧ g.D.length ≤ 60) := by
 have hbk := hK.bk
 have hbq := hK.qlt
 have hvl := (Array.getElem?_eq_some_iff.1 hv).1
 have r2 := cell_of_row _ _ 0 _ _ _ h2
 have r3 := cell_of_row _ _ 0 _ _ _ h3
 simp at r2 r3
 have HV := zA hv
 cases hn : wi n 0 2
 ·have HC := zA (keeperSync_range K n m w hn)
  have HR : Hid ((3 : Int) = xZ T P V dv D (G.map GT.p) W n m) := zA (by rw [xZ, if_pos hn])
  have HK := zA hK
  have rv := cell_of_row _ _ 0 _ _ _ hv
  have sv := frozen_of_row _ _ 0 _ _ hv
  simp at rv
  clear hK hv h2 h3 hg hG
  go_enter Tryz.func61, Tryz.ntmps61
  go_wp2_with fail
  refine HC.out.mono ?_
  rintro e w1 ⟨rfl, hw⟩
  obtain rfl := hw.symm
  go_wp2_with fail
  go_ret
  have ht : zS T P V (G.map GT.p) n 3 = [] := by rw [zS, if_neg (by decide)]
  exact ⟨3, none, 0, HR.out, rfl, by rw [ht]; exact heap_setCell_same _ vb 0 _ _ _ HV.out, by rw [ht]; exact ⟨⟨none, 0, rfl, fun i p h => by simp at h, by simp, fun _ => rfl⟩, fun k hk => by simp [Value.ownBlock] at hk⟩, (Kq.refl _ _).setCell (p := ⟨vb, 0, none⟩) (.inr (.inr rfl)) _, fun _ => HK.out.setB (p := ⟨vb, 0, none⟩) hvb _, fun h => absurd h (by decide)⟩
 ·have hnn : 0 ≤ n ∧ n ≤ 2 := (yO n 0 2).1 hn
  obtain ⟨q, rfl⟩ : ∃ q : Nat, n = (q : Int) := ⟨n.toNat, by omega⟩
  have hq3 : q < 3 := by omega
  obtain ⟨g, hgq⟩ : ∃ g, G[q]? = some g := ⟨G[q]'(by omega), by simp⟩
  obtain ⟨hA, hgD, -, -⟩ := hg q g hgq
  have HC := zA (keeperSync_any K Q B a T P V dv D G W q g m w hK hgq hq3 hl hlP hA (by omega) hlD hlW)
  have hgp := gAt_map hgq
  have HGP := zA hgp
  have HGL := zA (fun (x : GT) (hx : x.A.length ≤ 13 ∧ x.D.length ≤ 60) (k : Nat) (y : GT) (hy : (G.set q x)[k]? = some y) => show y.A.length ≤ 13 ∧ y.D.length ≤ 60 from by
   rw [List.getElem?_set] at hy
   split at hy
   ·split at hy
    ·cases hy; exact hx
    ·cases hy
   ·have := hg k y hy
    omega)
  clear hK hv h2 h3 hg hgp hgq hG hnn
  go_enter Tryz.func61, Tryz.ntmps61
  go_wp2_with fail
  refine HC.out.mono ?_
  rintro e w1 ⟨⟨E, M, o, c, hE, hM, rfl, hT, hk1, hk2⟩, hkq⟩
  have HKQ := zA hkq
  have HE := zA (And.intro hE hM)
  have HT := zA hT
  have H12 := zA (And.intro hk1 hk2)
  have hv1 := hkq.obj HV.out (fun h => by rcases h with h | h <;> omega)
  have HV1 := zA hv1
  have rv := cell_of_row _ _ 0 _ _ _ hv1
  have sv := frozen_of_row _ _ 0 _ _ hv1
  simp at rv
  clear hkq hE hM hT hk1 hk2 hv1 HC r2 r3
  go_wp2_with fail
  go_ret
  have hM : M = zS T P V (G.map GT.p) q E := by rw [zS, HGP.out]; exact HE.out.2
  have hE : E = xZ T P V dv D (G.map GT.p) W q m := by rw [xZ, if_neg (by rw [hn]; decide), HGP.out]; exact HE.out.1
  refine ⟨E, o, c, hE, rfl, by rw [← hM]; exact heap_setCell_same _ vb 0 _ _ _ HV1.out, by rw [← hM]; exact ⟨HT.out.1.set HT.out.2 (p := ⟨vb, 0, none⟩) hvl _, HT.out.2⟩, (HKQ.out.mono (fun k _ h => h.elim .inl (fun h => .inr (.inl h)))).setCell (p := ⟨vb, 0, none⟩) (.inr (.inr rfl)) _, fun h => (H12.out.1 h).setB (p := ⟨vb, 0, none⟩) hvb _, fun h => ?_⟩
  obtain ⟨a', x, hx, hk⟩ := H12.out.2 h
  have hM0 : zS T P V (G.map GT.p) q 0 = M := by rw [hM, h]
  rw [HGP.out, hM0]
  have hgA : g.p.A = g.A := rfl
  have hxA : x.A = [] := congrArg GP.A hx
  have hxD : x.D = (yC M dv D).2 := congrArg GP.D hx
  have hset : ∀ x : GT, (G.set q x).map GT.p = (G.map GT.p).set q x.p := fun x => List.map_set
  refine ⟨a', _, hk.setB (p := ⟨vb, 0, none⟩) hvb _, ?_, HGL.out x ⟨by rw [hxA]; simp, by rw [hxD]; exact denA_len M dv D (by omega)⟩⟩
  rw [hset, hx]
  rfl
theorem enterY1 (args : Array Value) (W : World) : (callFunc 61 args).run Tryz.prog W = .ok (.enter 61 args) W := by
 simp [go_sem]
theorem stationSync_any (T : List TK) (P : List TP) (V : List Int) (dv : Int) (D : List Int) (G : List GT) (W : List VW) (o1 o2 o3 od og ov : Option Addr) (c1 c2 c3 cd cg cv : Nat) (n m : Int) (w : World) (hs : StW w o1 o2 o3 c1 c2 c3 T P V od cd D og cg G ov cv W) :
  Calls Tryz.prog 23 #[stV o1 o2 o3 T.length c1 P.length c2 V.length c3 dv od D.length cd og G.length cg ov W.length cv, .int .i64 n, .int .i64 m] w fun e w' => (∃ v E M o c, E = syncS T P V dv D G W n m ∧ M = (if yP T P V dv D G W = 0 then (zS T P V (G.map GT.p) n E) else []) ∧ e = .returned (.tuple #[v, .slice o M.length c, .int .i64 E]) ∧ (zR w' (.slice o M.length c) M ∧ zK w.heap.size (.slice o M.length c)) ∧ (E ≠ 0 → v = stV none none none 0 0 0 0 0 0 0 none 0 0 none 0 0 none 0 0) ∧
   (E = 0 → ∃ G', G'.map GT.p = (G.map GT.p).set n.toNat (gSync (gAt (G.map GT.p) n) (yC (zS T P V (G.map GT.p) n 0) dv D).1 (yC (zS T P V (G.map GT.p) n 0) dv D).2 m) ∧ StR w' w.heap.size v (xV T P V (gAt (G.map GT.p) n).A) (xR T P V (gAt (G.map GT.p) n).A) (xY T P V (gAt (G.map GT.p) n).A) (yC (zS T P V (G.map GT.p) n 0) dv D).1 (yC (zS T P V (G.map GT.p) n 0) dv D).2 G' W)) ∧ Below w.heap.size w w' := by
 have HB := zA ((((((zL.nil w).more (.cells #[.slice o1 T.length c1, .slice o2 P.length c2, .slice o3 V.length c3, .int .i64 dv, .slice od D.length cd, .slice og G.length cg, .slice ov W.length cv] 32) (by simp)).more (.cells #[.int .i64 n] 3) (by simp)).more (.cells #[.int .i64 m] 3) (by simp)).more (.cells #[.slice none 0 0, .slice none 0 0, .slice none 0 0, .int .i64 0, .slice none 0 0, .slice none 0 0, .slice none 0 0] 32) (by simp)).more (.cells #[.slice none 0 0] 23) (by simp))
 have HS := zA (hs.below HB.out.2.2)
 have hz : (((((w.alloc (.cells #[.slice o1 T.length c1, .slice o2 P.length c2, .slice o3 V.length c3, .int .i64 dv, .slice od D.length cd, .slice og G.length cg, .slice ov W.length cv] 32)).alloc (.cells #[.int .i64 n] 3)).alloc (.cells #[.int .i64 m] 3)).alloc (.cells #[.slice none 0 0, .slice none 0 0, .slice none 0 0, .int .i64 0, .slice none 0 0, .slice none 0 0, .slice none 0 0] 32)).alloc (.cells #[.slice none 0 0] 23)).heap.size = w.heap.size + 1 + 1 + 1 + 1 + 1 := by simp
 obtain ⟨E, hE⟩ : ∃ E, E = syncS T P V dv D G W n m := ⟨_, rfl⟩
 have hE0 : yP T P V dv D G W = 0 → E = xZ T P V dv D (G.map GT.p) W n m := fun h => by rw [hE, syncS, if_pos h]
 have hEE : yP T P V dv D G W ≠ 0 → E = yP T P V dv D G W := fun h => by rw [hE, syncS, if_neg h]
 have HC := zA (changed_any 61 #[.pointer (some ⟨w.heap.size + 1, 0, none⟩), .pointer (some ⟨w.heap.size + 1 + 1, 0, none⟩), .pointer (some ⟨w.heap.size + 1 + 1 + 1 + 1, 0, none⟩)] enterY1 (fun k => k = w.heap.size + 1 + 1 + 1 + 1) T P V dv D G W o1 o2 o3 od og ov c1 c2 c3 cd cg cv _ HS.out (fun k h => by rw [h]; simp)
  (fun E' X => E' = E ∧ (∃ o c, X.heap[w.heap.size + 1 + 1 + 1 + 1]? = some (.cells #[.slice o (zS T P V (G.map GT.p) n E).length c] 23) ∧ zR X (.slice o (zS T P V (G.map GT.p) n E).length c) (zS T P V (G.map GT.p) n E) ∧ zK (w.heap.size + 1 + 1 + 1 + 1 + 1 + 1 + 1) (.slice o (zS T P V (G.map GT.p) n E).length c))) (fun _ T' P' V' dv' D' G' W' X => E = 0 ∧ (∃ o c, X.heap[w.heap.size + 1 + 1 + 1 + 1]? = some (.cells #[.slice o (zS T P V (G.map GT.p) n E).length c] 23) ∧ zR X (.slice o (zS T P V (G.map GT.p) n E).length c) (zS T P V (G.map GT.p) n E) ∧ zK (w.heap.size + 1 + 1 + 1 + 1 + 1 + 1 + 1) (.slice o (zS T P V (G.map GT.p) n E).length c)) ∧ T' = xV T P V (gAt (G.map GT.p) n).A ∧ P' = xR T P V (gAt (G.map GT.p) n).A ∧ V' = xY T P V (gAt (G.map GT.p) n).A ∧ dv' = (yC (zS T P V (G.map GT.p) n 0) dv D).1 ∧ D' = (yC (zS T P V (G.map GT.p) n 0) dv D).2 ∧ G'.map GT.p = (G.map GT.p).set n.toNat (gSync (gAt (G.map GT.p) n) (yC (zS T P V (G.map GT.p) n 0) dv D).1 (yC (zS T P V (G.map GT.p) n 0) dv D).2 m) ∧ W' = W)
  (fun _ _ p u hp h => ⟨h.1, h.2.imp fun o ho => ho.imp fun c hc => ⟨zD hc.1 (by rw [hp]; simp; try omega) u, hc.2.1.set hc.2.2 (by rw [hp]; simp; try omega) u, hc.2.2⟩⟩) (fun _ _ _ _ _ _ _ _ _ p u hp h => ⟨h.1, h.2.1.imp fun o ho => ho.imp fun c hc => ⟨zD hc.1 (by rw [hp]; simp; try omega) u, hc.2.1.set hc.2.2 (by rw [hp]; simp; try omega) u, hc.2.2⟩, h.2.2⟩) (fun h0 w1 K Q a G' hm hk hb => by
   obtain ⟨p1, p2, p3, p4, -, p6⟩ := yM h0
   obtain ⟨q1, q2, q3, -, -⟩ := zW p1
   have q4 := (yE p2).2.2.1
   have hl3 : G'.length = 3 := by have := congrArg List.length hm; simp at this; omega
   have hgl := gates_lens p4 hm
   have hkk := hk.lt
   have hkb := hk.bk
   have hw1 : w.heap.size + 1 + 1 + 1 + 1 + 1 + 1 + 1 ≤ w1.heap.size := by simp at hkb; omega
   refine (sync1_any K Q _ a T P V dv D G' W (w.heap.size + 1) (w.heap.size + 1 + 1) (w.heap.size + 1 + 1 + 1 + 1) n m _ w1 hk hl3 hgl (xP.of p1) q2 q4 (by omega) (zC (HB.out.1 1 _ rfl) hb) (zC (HB.out.1 2 _ rfl) hb) (zC (HB.out.1 4 _ rfl) hb) (by simp; try omega)).mono ?_
   rintro e w2 ⟨E', o, c, hE', rfl, hv, hT, hkq, he, ho⟩
   rw [hm] at hE' ho hv hT
   have hRR : E' = E := by rw [hE', hE0 h0]
   subst hRR
   refine ⟨_, rfl, hkq, fun _ => ⟨rfl, o, c, hv, hT.1, hT.2.mono hw1⟩, fun h => ?_⟩
   obtain ⟨a', G'', hk', hm', hl'⟩ := ho h
   refine ⟨a', _, _, _, _, _, G'', _, hk', ?_, h, ⟨o, c, hv, hT.1, hT.2.mono hw1⟩, rfl, rfl, rfl, rfl, rfl, hm', rfl⟩
   have hA : (gAt (G.map GT.p) n).A.length ≤ 12 := by
    unfold gAt
    rw [← hm]
    simp only [List.getD, List.getElem?_map]
    cases hx : G'[n.toNat]? with
    | none => simp [gp0]
    | some x =>
     have := (hgl _ x hx).1
     exact this
   refine ⟨into_lnS T P V _ q1 q2 hA, ?_, fun g hg => ?_, ?_, by omega⟩
   ·have := denA_len (zS T P V (G.map GT.p) n 0) dv D (by omega)
    omega
   ·obtain ⟨i, hi⟩ := List.mem_iff_getElem?.1 hg
    have := hl' i g hi
    exact ⟨by omega, by omega⟩
   ·have := congrArg List.length hm'
    simp at this
    omega))
 rw [hz] at HC
 have HE0 := zA (And.intro hE0 hEE)
 have HE := zA hE
 clear hs hz hE0 hEE hE
 obtain ⟨M, hM⟩ : ∃ M, M = (if yP T P V dv D G W = 0 then (zS T P V (G.map GT.p) n E) else []) := ⟨_, rfl⟩
 have HM := zA hM
 clear hM
 suffices h : Calls Tryz.prog 23 #[stV o1 o2 o3 T.length c1 P.length c2 V.length c3 dv od D.length cd og G.length cg ov W.length cv, .int .i64 n, .int .i64 m] w fun e w' => (∃ v o c, e = .returned (.tuple #[v, .slice o M.length c, .int .i64 E]) ∧ (zR w' (.slice o M.length c) M ∧ zK w.heap.size (.slice o M.length c)) ∧ (E ≠ 0 → v = stV none none none 0 0 0 0 0 0 0 none 0 0 none 0 0 none 0 0) ∧ (E = 0 → ∃ G', G'.map GT.p = (G.map GT.p).set n.toNat (gSync (gAt (G.map GT.p) n) (yC (zS T P V (G.map GT.p) n 0) dv D).1 (yC (zS T P V (G.map GT.p) n 0) dv D).2 m) ∧ StR w' w.heap.size v (xV T P V (gAt (G.map GT.p) n).A) (xR T P V (gAt (G.map GT.p) n).A) (xY T P V (gAt (G.map GT.p) n).A) (yC (zS T P V (G.map GT.p) n 0) dv D).1 (yC (zS T P V (G.map GT.p) n 0) dv D).2 G' W)) ∧ Below w.heap.size w w' by
  refine h.mono ?_
  rintro e w' ⟨⟨v, o, c, he, hT, h1, h2⟩, hb⟩
  exact ⟨⟨v, E, M, o, c, HE.out, HM.out, he, hT, h1, h2⟩, hb⟩
 obtain ⟨k0, k1, k2, k3, k4, k5, k6⟩ := HB.out.c7 0 w.heap.size rfl rfl rfl rfl rfl rfl rfl rfl rfl
 go_enter Tryz.func23, Tryz.ntmps23
 go_wp2_with fail
 refine HC.out.mono ?_
 rintro e w1 ⟨⟨v, E', rfl, h1, h2, h3⟩, hkq⟩
 have hEE : E' = E ∧ ∃ o c, w1.heap[w.heap.size + 1 + 1 + 1 + 1]? = some (.cells #[.slice o M.length c] 23) ∧ zR w1 (.slice o M.length c) M ∧ zK (w.heap.size + 1 + 1 + 1 + 1 + 1 + 1 + 1) (.slice o M.length c) := by
  rw [HM.out]
  by_cases h0 : yP T P V dv D G W = 0
  ·rw [if_pos h0]
   by_cases hE0 : E' = 0
   ·obtain ⟨a, T', P', V', dv', D', G', W', -, hk, hv, -⟩ := (h3 h0).2 hE0
    exact ⟨by rw [hE0, hk], hv⟩
   ·exact (h3 h0).1 hE0
  ·rw [if_neg h0]
   have he := h1 h0
   refine ⟨he.1.trans (HE0.out.2 h0).symm, none, 0, ?_, ⟨none, 0, rfl, fun i p h => by simp at h, by simp, fun _ => rfl⟩, fun k hk => by simp [Value.ownBlock] at hk⟩
   exact (he.2.block _ (by omega)).trans (HB.out.1 4 _ rfl)
 obtain ⟨hE1, o, c, hV1, hT1, hF1⟩ := hEE
 subst hE1
 have h4 : E' = 0 → ∃ G', G'.map GT.p = (G.map GT.p).set n.toNat (gSync (gAt (G.map GT.p) n) (yC (zS T P V (G.map GT.p) n 0) dv D).1 (yC (zS T P V (G.map GT.p) n 0) dv D).2 m) ∧ StR w1 (w.heap.size + 1 + 1 + 1 + 1 + 1 + 1 + 1) v (xV T P V (gAt (G.map GT.p) n).A) (xR T P V (gAt (G.map GT.p) n).A) (xY T P V (gAt (G.map GT.p) n).A) (yC (zS T P V (G.map GT.p) n 0) dv D).1 (yC (zS T P V (G.map GT.p) n 0) dv D).2 G' W := by
  intro h0
  by_cases hc : yP T P V dv D G W = 0
  ·obtain ⟨a, T', P', V', dv', D', G', W', hr, -, -, rfl, rfl, rfl, rfl, rfl, hm, rfl⟩ := (h3 hc).2 h0
   exact ⟨G', hm, hr⟩
  ·have := (h1 hc).1
   omega
 have hv : ∃ x1 x2 x3 n1 y1 n2 y2 n3 y3 xv x4 n4 y4 x5 n5 y5 x6 n6 y6, v = stV x1 x2 x3 n1 y1 n2 y2 n3 y3 xv x4 n4 y4 x5 n5 y5 x6 n6 y6 := by
  by_cases h0 : E' = 0
  ·obtain ⟨G', -, hr⟩ := h4 h0
   exact hr.form
  ·exact ⟨_, _, _, _, _, _, _, _, _, _, _, _, _, _, _, _, _, _, _, h2 h0⟩
 obtain ⟨x1, x2, x3, n1, y1, n2, y2, n3, y3, xv, x4, n4, y4, x5, n5, y5, x6, n6, y6, rfl⟩ := hv
 have H2 := zA h2
 have H4 := zA h4
 have HV1 := zA hV1
 have HT1 := zA hT1
 have HF1 := zA hF1
 have HZ1 := zA (hkq.obj (HB.out.1 3 _ rfl) (by omega))
 have hkb := hkq.below (B := w.heap.size) (by have := HB.out.2.2.size; exact this) (fun k hk h => by omega)
 have HBw := zA (HB.out.2.2.trans hkb)
 have hsz : w.heap.size + 1 + 1 + 1 + 1 + 1 ≤ w1.heap.size := by have := hkq.size; simp at this; omega
 clear h1 h2 h3 h4 hV1 hT1 hF1 hkq hkb HB HS HC HE0 k0 k1 k2 k3 k4 k5 k6
 have HA := zA ((Below.refl w1.heap.size w1).alloc (Nat.le_refl _) (.cells #[.slice x1 n1 y1, .slice x2 n2 y2, .slice x3 n3 y3, .int .i64 xv, .slice x4 n4 y4, .slice x5 n5 y5, .slice x6 n6 y6] 32))
 have HN := zA (heap_alloc_new w1 (.cells #[.slice x1 n1 y1, .slice x2 n2 y2, .slice x3 n3 y3, .int .i64 xv, .slice x4 n4 y4, .slice x5 n5 y5, .slice x6 n6 y6] 32))
 have HV2 := zA (zC HV1.out HA.out)
 have HT2 := zA (HT1.out.below HA.out)
 have HZ2 := zA (zC HZ1.out HA.out)
 have HB2 := zA (HBw.out.trans (HA.out.mono (by omega)))
 have H42 := zA (fun h => (H4.out h).imp fun _ hm => And.intro hm.1 (hm.2.below HA.out))
 clear HV1 HZ1 HBw H4 HT1
 go_upto_region 3 with fail
 generalize w1.alloc (.cells #[.slice x1 n1 y1, .slice x2 n2 y2, .slice x3 n3 y3, .int .i64 xv, .slice x4 n4 y4, .slice x5 n5 y5, .slice x6 n6 y6] 32) = w2 at *
 refine zJ (fun w' => w'.heap[w1.heap.size]? = some (.cells #[.slice x1 n1 y1, .slice x2 n2 y2, .slice x3 n3 y3, .int .i64 xv, .slice x4 n4 y4, .slice x5 n5 y5, .slice x6 n6 y6] 32) ∧ w'.heap[w.heap.size + 1 + 1 + 1 + 1]? = some (.cells #[.slice o M.length c] 23)) [0, 1, 2] 3 (by rfl) (by kernel_rfl) (by kernel_rfl) (by kernel_rfl) (fun c d v a w h => by cases d <;> exact h) ?_ ?_
 ·exact ⟨zC HN.out (Below.refl _ _).drew, zC HV2.out (Below.refl _ _).drew⟩
 refine zB (stV x1 x2 x3 n1 y1 n2 y2 n3 y3 xv x4 n4 y4 x5 n5 y5 x6 n6 y6) rfl rfl (fun w' hS => ?_) ?_
 ·have q0 : w'.cell? ⟨w1.heap.size, 0, none⟩ = some (.slice x1 n1 y1) := by rw [cell_of_row _ _ 0 _ _ _ hS.1]; rfl
  have q1 : w'.cell? ⟨w1.heap.size, 1, none⟩ = some (.slice x2 n2 y2) := by rw [cell_of_row _ _ 1 _ _ _ hS.1]; rfl
  have q2 : w'.cell? ⟨w1.heap.size, 2, none⟩ = some (.slice x3 n3 y3) := by rw [cell_of_row _ _ 2 _ _ _ hS.1]; rfl
  have q3 : w'.cell? ⟨w1.heap.size, 3, none⟩ = some (.int .i64 xv) := by rw [cell_of_row _ _ 3 _ _ _ hS.1]; rfl
  have q4 : w'.cell? ⟨w1.heap.size, 4, none⟩ = some (.slice x4 n4 y4) := by rw [cell_of_row _ _ 4 _ _ _ hS.1]; rfl
  have q5 : w'.cell? ⟨w1.heap.size, 5, none⟩ = some (.slice x5 n5 y5) := by rw [cell_of_row _ _ 5 _ _ _ hS.1]; rfl
  have q6 : w'.cell? ⟨w1.heap.size, 6, none⟩ = some (.slice x6 n6 y6) := by rw [cell_of_row _ _ 6 _ _ _ hS.1]; rfl
  go_simp
 refine zB (.slice o M.length c) rfl rfl (fun w' hS => ?_) ?_
 ·have q0 : w'.cell? ⟨w.heap.size + 1 + 1 + 1 + 1, 0, none⟩ = some (.slice o M.length c) := by rw [cell_of_row _ _ 0 _ _ _ hS.2]; rfl
  go_simp
 refine pS (.int .i64 E') rfl rfl ?_
 refine zE ?_
 have HNd := zA (zC HN.out (Below.refl _ _).drew)
 have HVd := zA (zC HV2.out (Below.refl _ _).drew)
 have HTd := zA (HT2.out.below (Below.refl _ _).drew)
 have HZd := zA (zC HZ2.out (Below.refl _ _).drew)
 have HBd := zA HB2.out.drew
 have H4d := zA (fun h => (H42.out h).imp fun _ hm => And.intro hm.1 (hm.2.below (Below.refl _ _).drew))
 clear HN HV2 HZ2 HB2 H42 HA HT2
 generalize (World.drew _) = w3 at *
 have r0 := cell_of_row _ _ 0 _ _ _ HZd.out
 have s0 := frozen_of_row _ _ 0 _ _ HZd.out
 have r1 := cell_of_row _ _ 1 _ _ _ HZd.out
 have s1 := frozen_of_row _ _ 1 _ _ HZd.out
 have r2 := cell_of_row _ _ 2 _ _ _ HZd.out
 have s2 := frozen_of_row _ _ 2 _ _ HZd.out
 have r3 := cell_of_row _ _ 3 _ _ _ HZd.out
 have s3 := frozen_of_row _ _ 3 _ _ HZd.out
 have r4 := cell_of_row _ _ 4 _ _ _ HZd.out
 have s4 := frozen_of_row _ _ 4 _ _ HZd.out
 have r5 := cell_of_row _ _ 5 _ _ _ HZd.out
 have s5 := frozen_of_row _ _ 5 _ _ HZd.out
 have r6 := cell_of_row _ _ 6 _ _ _ HZd.out
 have s6 := frozen_of_row _ _ 6 _ _ HZd.out
 simp at r0 r1 r2 r3 r4 r5 r6
 refine oR 3 rfl rfl fun K hK => ?_
 go_simp
 have HZ := zA (heap_setCell_same _ (w.heap.size + 1 + 1 + 1) 6 _ _ (.slice x6 n6 y6) (heap_setCell_same _ (w.heap.size + 1 + 1 + 1) 5 _ _ (.slice x5 n5 y5) (heap_setCell_same _ (w.heap.size + 1 + 1 + 1) 4 _ _ (.slice x4 n4 y4) (heap_setCell_same _ (w.heap.size + 1 + 1 + 1) 3 _ _ (.int .i64 xv) (heap_setCell_same _ (w.heap.size + 1 + 1 + 1) 2 _ _ (.slice x3 n3 y3) (heap_setCell_same _ (w.heap.size + 1 + 1 + 1) 1 _ _ (.slice x2 n2 y2) (heap_setCell_same _ (w.heap.size + 1 + 1 + 1) 0 _ _ (.slice x1 n1 y1) HZd.out)))))))
 have HBz := zA (((((((HBd.out.setCell (p := ⟨w.heap.size + 1 + 1 + 1, 0, none⟩) (by simp; try omega) (.slice x1 n1 y1)).setCell (p := ⟨w.heap.size + 1 + 1 + 1, 1, none⟩) (by simp; try omega) (.slice x2 n2 y2)).setCell (p := ⟨w.heap.size + 1 + 1 + 1, 2, none⟩) (by simp; try omega) (.slice x3 n3 y3)).setCell (p := ⟨w.heap.size + 1 + 1 + 1, 3, none⟩) (by simp; try omega) (.int .i64 xv)).setCell (p := ⟨w.heap.size + 1 + 1 + 1, 4, none⟩) (by simp; try omega) (.slice x4 n4 y4)).setCell (p := ⟨w.heap.size + 1 + 1 + 1, 5, none⟩) (by simp; try omega) (.slice x5 n5 y5)).setCell (p := ⟨w.heap.size + 1 + 1 + 1, 6, none⟩) (by simp; try omega) (.slice x6 n6 y6))
 have HTz := zA (((((((HTd.out.set HF1.out (p := ⟨w.heap.size + 1 + 1 + 1, 0, none⟩) (by simp; try omega) (.slice x1 n1 y1)).set HF1.out (p := ⟨w.heap.size + 1 + 1 + 1, 1, none⟩) (by simp; try omega) (.slice x2 n2 y2)).set HF1.out (p := ⟨w.heap.size + 1 + 1 + 1, 2, none⟩) (by simp; try omega) (.slice x3 n3 y3)).set HF1.out (p := ⟨w.heap.size + 1 + 1 + 1, 3, none⟩) (by simp; try omega) (.int .i64 xv)).set HF1.out (p := ⟨w.heap.size + 1 + 1 + 1, 4, none⟩) (by simp; try omega) (.slice x4 n4 y4)).set HF1.out (p := ⟨w.heap.size + 1 + 1 + 1, 5, none⟩) (by simp; try omega) (.slice x5 n5 y5)).set HF1.out (p := ⟨w.heap.size + 1 + 1 + 1, 6, none⟩) (by simp; try omega) (.slice x6 n6 y6))
 have H4z := zA (fun h => (H4d.out h).imp fun _ hm => And.intro hm.1 (((((((hm.2.set (p := ⟨w.heap.size + 1 + 1 + 1, 0, none⟩) (by simp; try omega) (.slice x1 n1 y1)).set (p := ⟨w.heap.size + 1 + 1 + 1, 1, none⟩) (by simp; try omega) (.slice x2 n2 y2)).set (p := ⟨w.heap.size + 1 + 1 + 1, 2, none⟩) (by simp; try omega) (.slice x3 n3 y3)).set (p := ⟨w.heap.size + 1 + 1 + 1, 3, none⟩) (by simp; try omega) (.int .i64 xv)).set (p := ⟨w.heap.size + 1 + 1 + 1, 4, none⟩) (by simp; try omega) (.slice x4 n4 y4)).set (p := ⟨w.heap.size + 1 + 1 + 1, 5, none⟩) (by simp; try omega) (.slice x5 n5 y5)).set (p := ⟨w.heap.size + 1 + 1 + 1, 6, none⟩) (by simp; try omega) (.slice x6 n6 y6)))
 have HSn := zA (And.intro (zD (zD (zD (zD (zD (zD (zD HNd.out (p := ⟨w.heap.size + 1 + 1 + 1, 0, none⟩) (by simp; try omega) (.slice x1 n1 y1)) (p := ⟨w.heap.size + 1 + 1 + 1, 1, none⟩) (by simp; try omega) (.slice x2 n2 y2)) (p := ⟨w.heap.size + 1 + 1 + 1, 2, none⟩) (by simp; try omega) (.slice x3 n3 y3)) (p := ⟨w.heap.size + 1 + 1 + 1, 3, none⟩) (by simp; try omega) (.int .i64 xv)) (p := ⟨w.heap.size + 1 + 1 + 1, 4, none⟩) (by simp; try omega) (.slice x4 n4 y4)) (p := ⟨w.heap.size + 1 + 1 + 1, 5, none⟩) (by simp; try omega) (.slice x5 n5 y5)) (p := ⟨w.heap.size + 1 + 1 + 1, 6, none⟩) (by simp; try omega) (.slice x6 n6 y6)) (zD (zD (zD (zD (zD (zD (zD HVd.out (p := ⟨w.heap.size + 1 + 1 + 1, 0, none⟩) (by simp; try omega) (.slice x1 n1 y1)) (p := ⟨w.heap.size + 1 + 1 + 1, 1, none⟩) (by simp; try omega) (.slice x2 n2 y2)) (p := ⟨w.heap.size + 1 + 1 + 1, 2, none⟩) (by simp; try omega) (.slice x3 n3 y3)) (p := ⟨w.heap.size + 1 + 1 + 1, 3, none⟩) (by simp; try omega) (.int .i64 xv)) (p := ⟨w.heap.size + 1 + 1 + 1, 4, none⟩) (by simp; try omega) (.slice x4 n4 y4)) (p := ⟨w.heap.size + 1 + 1 + 1, 5, none⟩) (by simp; try omega) (.slice x5 n5 y5)) (p := ⟨w.heap.size + 1 + 1 + 1, 6, none⟩) (by simp; try omega) (.slice x6 n6 y6)))
 refine hK _ _ HSn.out ?_
 clear hK K HBd H4d HNd HVd HZd HTd r0 r1 r2 r3 r4 r5 r6 s0 s1 s2 s3 s4 s5 s6
 generalize (((((((w3.setCell ⟨w.heap.size + 1 + 1 + 1, 0, none⟩ (.slice x1 n1 y1)).setCell ⟨w.heap.size + 1 + 1 + 1, 1, none⟩ (.slice x2 n2 y2)).setCell ⟨w.heap.size + 1 + 1 + 1, 2, none⟩ (.slice x3 n3 y3)).setCell ⟨w.heap.size + 1 + 1 + 1, 3, none⟩ (.int .i64 xv)).setCell ⟨w.heap.size + 1 + 1 + 1, 4, none⟩ (.slice x4 n4 y4)).setCell ⟨w.heap.size + 1 + 1 + 1, 5, none⟩ (.slice x5 n5 y5)).setCell ⟨w.heap.size + 1 + 1 + 1, 6, none⟩ (.slice x6 n6 y6)) = w5 at *
 refine oR 4 rfl rfl fun K hK => ?_
 go_simp
 refine hK _ _ HSn.out ?_
 clear hK K
 refine oR 5 rfl rfl fun K hK => ?_
 go_simp
 refine hK _ _ HSn.out ?_
 clear hK K
 refine wpAnyH_done (by kernel_rfl) ?_ _
 have g0 := cell_of_row _ _ 0 _ _ _ HZ.out
 have g1 := cell_of_row _ _ 1 _ _ _ HZ.out
 have g2 := cell_of_row _ _ 2 _ _ _ HZ.out
 have g3 := cell_of_row _ _ 3 _ _ _ HZ.out
 have g4 := cell_of_row _ _ 4 _ _ _ HZ.out
 have g5 := cell_of_row _ _ 5 _ _ _ HZ.out
 have g6 := cell_of_row _ _ 6 _ _ _ HZ.out
 simp at g0 g1 g2 g3 g4 g5 g6
 go_wp2_with fail
 exact bodyPost_ret (v := .tuple #[stV x1 x2 x3 n1 y1 n2 y2 n3 y3 xv x4 n4 y4 x5 n5 y5 x6 n6 y6, .slice o M.length c, .int .i64 E']) (by simp [results, Tryz.results23, go_sem, g0, g1, g2, g3, g4, g5, g6]) rfl ⟨⟨_, o, c, rfl, ⟨HTz.out, HF1.out.mono (by omega)⟩, H2.out, fun h => (H4z.out h).imp fun _ hm => ⟨hm.1, hm.2.mono (by omega)⟩⟩, HBz.out⟩
theorem gatesAt_own {w : World} {B Q c : Nat} {G : List GT} (h : w.ownsRow B 58 8 (.slice (some ⟨Q, 0, none⟩) G.length c) G.length (yF G)) (hl : ∀ g ∈ G, zR w (.slice g.oa g.A.length g.ca) g.A ∧ zP w (.slice g.od g.D.length g.cd) g.D) : xA w (some ⟨Q, 0, none⟩) G := by
 intro i g hi
 have hc : ∀ j, j < 8 → w.cell? ⟨Q, i * 8 + j, none⟩ = g.cells[j]? := fun j hj => by
  rw [h.cellAt (i * 8 + j) (by have := (List.getElem?_eq_some_iff.1 hi).1; omega)]
  exact qU G i g hi j hj
 have hm := hl g (List.mem_of_getElem? hi)
 refine ⟨_, rfl, ?_, hm.1, hm.2⟩
 rw [qX]
 exact ⟨hc 0 (by omega), hc 1 (by omega), hc 2 (by omega), hc 3 (by omega), hc 4 (by omega), hc 5 (by omega), hc 6 (by omega), hc 7 (by omega)⟩
theorem own_lit {w : World} {B b n size : Nat} {e : TypeId} {cs : Array Value} (h : w.heap[b]? = some (.cells cs e)) (hB : B ≤ b) (hn : n ≤ 1000) (hs : cs.size = n * size) : w.ownsRow B e size (.slice (some ⟨b, 0, none⟩) n n) n cs.toList :=
 ⟨by simpa using hs, .inr ⟨b, n, cs, rfl, hB, h, Nat.le_refl _, by unfold maxLen; omega, hs, List.take_of_length_le (by rw [Array.length_toList, hs]; exact Nat.le_refl _)⟩⟩
theorem newStation_any (w : World) : Calls Tryz.prog 46 #[] w fun e w' => (∃ og cg ov cv, e = .returned (stV none none none 0 0 0 0 0 0 0 none 0 0 og 3 cg ov 3 cv) ∧ (xA w' og xE ∧ 3 ≤ cg ∧ (og = none → cg = 0) ∧ zK w.heap.size (.slice og 3 cg)) ∧ qK w' (.slice ov 3 cv) newV ∧ zK w.heap.size (.slice ov 3 cv)) ∧ Below w.heap.size w w' := by
 have HB := zA (((((zL.nil w).more (.cells #[.slice none 0 0, .slice none 0 0, .slice none 0 0, .int .i64 0, .slice none 0 0, .slice (some ⟨w.heap.size + 1 + 1, 0, none⟩) 3 3, .slice (some ⟨w.heap.size + 1 + 1 + 1, 0, none⟩) 3 3] 32) (by simp)).more (.cells #[.int .i64 9, .int .i64 100] 56) (by simp)).more (.cells #[.int .i64 0, .int .i64 1, .int .i64 0, .slice none 0 0, .int .i64 0, .slice none 0 0, .int .i64 9, .int .i64 100, .int .i64 1, .int .i64 2, .int .i64 0, .slice none 0 0, .int .i64 0, .slice none 0 0, .int .i64 9, .int .i64 100, .int .i64 2, .int .i64 4, .int .i64 0, .slice none 0 0, .int .i64 0, .slice none 0 0, .int .i64 9, .int .i64 100] 58) (by simp)).more (.cells #[.int .i64 0, .int .i64 0, .bool true, .int .i64 0, .int .i64 0, .bool true, .int .i64 0, .int .i64 0, .bool true] 107) (by simp))
 go_enter Tryz.func46, Tryz.ntmps46
 go_wp2_with fail
 refine bodyPost_ret (v := stV none none none 0 0 0 0 0 0 0 none 0 0 (some ⟨w.heap.size + 1 + 1, 0, none⟩) 3 3 (some ⟨w.heap.size + 1 + 1 + 1, 0, none⟩) 3 3) (by simp [results, Tryz.results46, go_sem]) rfl ⟨⟨_, _, _, _, rfl, ⟨?_, Nat.le_refl _, (fun h => by cases h), ?_⟩, ?_, ?_⟩, HB.out.2.2⟩
 ·have h := own_lit (B := 0) (n := 3) (size := 8) (HB.out.1 2 _ rfl) (Nat.zero_le _) (by omega) rfl
  refine gatesAt_own (B := 0) (c := 3) (G := xE) h (fun g hg => ?_)
  simp only [xE, List.mem_cons, List.not_mem_nil, or_false] at hg
  rcases hg with rfl | rfl | rfl <;> exact ⟨tapsV_nil _, intsV_nil _⟩
 ·intro k hk
  simp [Value.ownBlock] at hk
  omega
 ·exact vwsV_own (base := 0) (L := newV) (own_lit (B := 0) (n := 3) (size := 3) (HB.out.1 3 _ rfl) (Nat.zero_le _) (by omega) rfl)
 ·intro k hk
  simp [Value.ownBlock] at hk
  omega
def xS : List TK := [⟨1, 1, 10, 500, 15, 0⟩]
def jD : List VW := [⟨1, 0, true⟩, ⟨1, 0, true⟩, ⟨1, 0, true⟩]
theorem hall_any (w : World) : Calls Tryz.prog 48 #[] w fun e w' => (∃ o1 c1 og cg ov cv, e = .returned (stV o1 none none 1 c1 0 0 0 0 0 none 0 0 og 3 cg ov 3 cv) ∧ StW w' o1 none none c1 0 0 xS [] [] none 0 [] og cg xE ov cv jD ∧ zK w.heap.size (.slice ov 3 cv)) ∧ Below w.heap.size w w' := by
 have HB := zA ((zL.nil w).more (.cells #[.slice none 0 0, .slice none 0 0, .slice none 0 0, .int .i64 0, .slice none 0 0, .slice none 0 0, .slice none 0 0] 32) (by simp))
 go_enter Tryz.func48, Tryz.ntmps48
 go_wp2_with fail
 refine (newStation_any _).mono ?_
 rintro e w1 ⟨⟨og, cg, ov, cv, rfl, ⟨hG, hcg, hng, hgf⟩, -, -⟩, hb⟩
 have HB1 := zA (HB.out.on hb)
 have HG1 := zA hG
 have HGf : Hid (zK (w.heap.size + 1) (.slice og 3 cg)) := zA (hgf.mono (by simp))
 have hw01 : w.heap.size < w1.heap.size := HB1.out.2.1
 clear hb hG hgf HB
 have HX := zA (((zL.nil w1).more (.cells #[.slice none 0 0, .slice none 0 0, .slice none 0 0, .int .i64 0, .slice none 0 0, .slice og 3 cg, .slice (some ⟨w1.heap.size + 1, 0, none⟩) 3 3] 32) (by simp)).more (.cells #[.int .i64 1, .int .i64 0, .bool true, .int .i64 1, .int .i64 0, .bool true, .int .i64 1, .int .i64 0, .bool true] 107) (by simp))
 have HB2 := zA (HB1.out.on HX.out.2.2)
 clear HB1
 go_wp2_with fail
 refine (single_any _ _).mono ?_
 rintro e w2 ⟨rfl, hb⟩
 have HX2 := zA (HX.out.on hb)
 have HB3 := zA (HB2.out.on hb)
 clear hb HX HB2
 obtain ⟨b0, b1, b2, b3, b4, b5, b6⟩ := HB3.out.c7 0 w.heap.size rfl rfl rfl rfl rfl rfl rfl rfl rfl
 obtain ⟨f0, f1, f2, f3, f4, f5, f6⟩ := HB3.out.z7 0 w.heap.size rfl rfl
 obtain ⟨x0, x1, x2, x3, x4, x5, x6⟩ := HX2.out.c7 0 w1.heap.size rfl rfl rfl rfl rfl rfl rfl rfl rfl
 have y0 := HX2.out.frozen 0 0 w1.heap.size _ _ rfl rfl
 have hs1 : w.heap.size + 1 ≤ w2.heap.size := HB3.out.2.1
 have hs2 : w1.heap.size + 1 + 1 ≤ w2.heap.size := HX2.out.2.1
 have hs3 : w1.heap.size < w2.heap.size := by omega
 have hs4 : w.heap.size < w2.heap.size := by omega
 have hs5 : w.heap.size < w1.heap.size := hw01
 go_wp2_with fail
 have hgl : ∀ g ∈ xE, zK (w.heap.size + 1) (.slice g.oa g.A.length g.ca) ∧ zK (w.heap.size + 1) (.slice g.od g.D.length g.cd) := by
  intro g hg
  simp only [xE, List.mem_cons, List.not_mem_nil, or_false] at hg
  rcases hg with rfl | rfl | rfl <;> exact ⟨fun k hk => by simp [Value.ownBlock, gt0] at hk, fun k hk => by simp [Value.ownBlock, gt0] at hk⟩
 have HGa := zA (HG1.out.below (HX2.out.2.2.setCell (p := ⟨w1.heap.size, 0, none⟩) (Nat.le_refl _) (.slice (some ⟨w2.heap.size, 0, none⟩) 1 1)))
 have HGb := zA (((((((HGa.out.set HGf.out hgl (p := ⟨w.heap.size, 0, none⟩) (by simp) (.slice (some ⟨w2.heap.size, 0, none⟩) 1 1)).set HGf.out hgl (p := ⟨w.heap.size, 1, none⟩) (by simp) (.slice none 0 0)).set HGf.out hgl (p := ⟨w.heap.size, 2, none⟩) (by simp) (.slice none 0 0)).set HGf.out hgl (p := ⟨w.heap.size, 3, none⟩) (by simp) (.int .i64 0)).set HGf.out hgl (p := ⟨w.heap.size, 4, none⟩) (by simp) (.slice none 0 0)).set HGf.out hgl (p := ⟨w.heap.size, 5, none⟩) (by simp) (.slice og 3 cg)).set HGf.out hgl (p := ⟨w.heap.size, 6, none⟩) (by simp) (.slice (some ⟨w1.heap.size + 1, 0, none⟩) 3 3))
 have HVb := zA (zD (zD (zD (zD (zD (zD (zD (zD (HX2.out.1 1 _ rfl) (p := ⟨w1.heap.size, 0, none⟩) (by simp) (.slice (some ⟨w2.heap.size, 0, none⟩) 1 1)) (p := ⟨w.heap.size, 0, none⟩) (by simp; omega) (.slice (some ⟨w2.heap.size, 0, none⟩) 1 1)) (p := ⟨w.heap.size, 1, none⟩) (by simp; omega) (.slice none 0 0)) (p := ⟨w.heap.size, 2, none⟩) (by simp; omega) (.slice none 0 0)) (p := ⟨w.heap.size, 3, none⟩) (by simp; omega) (.int .i64 0)) (p := ⟨w.heap.size, 4, none⟩) (by simp; omega) (.slice none 0 0)) (p := ⟨w.heap.size, 5, none⟩) (by simp; omega) (.slice og 3 cg)) (p := ⟨w.heap.size, 6, none⟩) (by simp; omega) (.slice (some ⟨w1.heap.size + 1, 0, none⟩) 3 3))
 have HZb := zA (heap_setCell_same _ w.heap.size 6 _ _ (.slice (some ⟨w1.heap.size + 1, 0, none⟩) 3 3) (heap_setCell_same _ w.heap.size 5 _ _ (.slice og 3 cg) (heap_setCell_same _ w.heap.size 4 _ _ (.slice none 0 0) (heap_setCell_same _ w.heap.size 3 _ _ (.int .i64 0) (heap_setCell_same _ w.heap.size 2 _ _ (.slice none 0 0) (heap_setCell_same _ w.heap.size 1 _ _ (.slice none 0 0) (heap_setCell_same _ w.heap.size 0 _ _ (.slice (some ⟨w2.heap.size, 0, none⟩) 1 1) (zD (HB3.out.1 0 _ rfl) (p := ⟨w1.heap.size, 0, none⟩) (by simp; omega) (.slice (some ⟨w2.heap.size, 0, none⟩) 1 1)))))))))
 have HBb := zA ((((((((HB3.out.2.2.setCell (p := ⟨w1.heap.size, 0, none⟩) (by simp; omega) (.slice (some ⟨w2.heap.size, 0, none⟩) 1 1)).setCell (p := ⟨w.heap.size, 0, none⟩) (by simp) (.slice (some ⟨w2.heap.size, 0, none⟩) 1 1)).setCell (p := ⟨w.heap.size, 1, none⟩) (by simp) (.slice none 0 0)).setCell (p := ⟨w.heap.size, 2, none⟩) (by simp) (.slice none 0 0)).setCell (p := ⟨w.heap.size, 3, none⟩) (by simp) (.int .i64 0)).setCell (p := ⟨w.heap.size, 4, none⟩) (by simp) (.slice none 0 0)).setCell (p := ⟨w.heap.size, 5, none⟩) (by simp) (.slice og 3 cg)).setCell (p := ⟨w.heap.size, 6, none⟩) (by simp) (.slice (some ⟨w1.heap.size + 1, 0, none⟩) 3 3))
 have hsz : ((((((((w2.setCell ⟨w1.heap.size, 0, none⟩ (.slice (some ⟨w2.heap.size, 0, none⟩) 1 1)).setCell ⟨w.heap.size, 0, none⟩ (.slice (some ⟨w2.heap.size, 0, none⟩) 1 1)).setCell ⟨w.heap.size, 1, none⟩ (.slice none 0 0)).setCell ⟨w.heap.size, 2, none⟩ (.slice none 0 0)).setCell ⟨w.heap.size, 3, none⟩ (.int .i64 0)).setCell ⟨w.heap.size, 4, none⟩ (.slice none 0 0)).setCell ⟨w.heap.size, 5, none⟩ (.slice og 3 cg)).setCell ⟨w.heap.size, 6, none⟩ (.slice (some ⟨w1.heap.size + 1, 0, none⟩) 3 3)).heap.size = w2.heap.size := by simp only [World.size_setCell]
 have HA := zA ((Below.refl _ ((((((((w2.setCell ⟨w1.heap.size, 0, none⟩ (.slice (some ⟨w2.heap.size, 0, none⟩) 1 1)).setCell ⟨w.heap.size, 0, none⟩ (.slice (some ⟨w2.heap.size, 0, none⟩) 1 1)).setCell ⟨w.heap.size, 1, none⟩ (.slice none 0 0)).setCell ⟨w.heap.size, 2, none⟩ (.slice none 0 0)).setCell ⟨w.heap.size, 3, none⟩ (.int .i64 0)).setCell ⟨w.heap.size, 4, none⟩ (.slice none 0 0)).setCell ⟨w.heap.size, 5, none⟩ (.slice og 3 cg)).setCell ⟨w.heap.size, 6, none⟩ (.slice (some ⟨w1.heap.size + 1, 0, none⟩) 3 3))).alloc (Nat.le_refl _) (.cells #[.int .i64 1, .int .i64 1, .int .i64 10, .int .i64 500, .int .i64 15, .int .i64 0] 34))
 have hN : (((((((((w2.setCell ⟨w1.heap.size, 0, none⟩ (.slice (some ⟨w2.heap.size, 0, none⟩) 1 1)).setCell ⟨w.heap.size, 0, none⟩ (.slice (some ⟨w2.heap.size, 0, none⟩) 1 1)).setCell ⟨w.heap.size, 1, none⟩ (.slice none 0 0)).setCell ⟨w.heap.size, 2, none⟩ (.slice none 0 0)).setCell ⟨w.heap.size, 3, none⟩ (.int .i64 0)).setCell ⟨w.heap.size, 4, none⟩ (.slice none 0 0)).setCell ⟨w.heap.size, 5, none⟩ (.slice og 3 cg)).setCell ⟨w.heap.size, 6, none⟩ (.slice (some ⟨w1.heap.size + 1, 0, none⟩) 3 3)).alloc (.cells #[.int .i64 1, .int .i64 1, .int .i64 10, .int .i64 500, .int .i64 15, .int .i64 0] 34)).heap[w2.heap.size]? = some (.cells #[.int .i64 1, .int .i64 1, .int .i64 10, .int .i64 500, .int .i64 15, .int .i64 0] 34) := by
  have h := heap_alloc_new ((((((((w2.setCell ⟨w1.heap.size, 0, none⟩ (.slice (some ⟨w2.heap.size, 0, none⟩) 1 1)).setCell ⟨w.heap.size, 0, none⟩ (.slice (some ⟨w2.heap.size, 0, none⟩) 1 1)).setCell ⟨w.heap.size, 1, none⟩ (.slice none 0 0)).setCell ⟨w.heap.size, 2, none⟩ (.slice none 0 0)).setCell ⟨w.heap.size, 3, none⟩ (.int .i64 0)).setCell ⟨w.heap.size, 4, none⟩ (.slice none 0 0)).setCell ⟨w.heap.size, 5, none⟩ (.slice og 3 cg)).setCell ⟨w.heap.size, 6, none⟩ (.slice (some ⟨w1.heap.size + 1, 0, none⟩) 3 3)) (.cells #[.int .i64 1, .int .i64 1, .int .i64 10, .int .i64 500, .int .i64 15, .int .i64 0] 34)
  rwa [hsz] at h
 have HN := zA hN
 have HGc := zA (HGb.out.below HA.out)
 have HVc := zA (zC HVb.out HA.out)
 have HZc := zA (zC HZb.out HA.out)
 have HBc := zA (HBb.out.trans (HA.out.mono (by rw [hsz]; omega)))
 clear HGa HGb HVb HZb HBb HA hsz hN HG1 HX2 HB3 b0 b1 b2 b3 b4 b5 b6 f0 f1 f2 f3 f4 f5 f6 x0 x1 x2 x3 x4 x5 x6 y0
 generalize (((((((((w2.setCell ⟨w1.heap.size, 0, none⟩ (.slice (some ⟨w2.heap.size, 0, none⟩) 1 1)).setCell ⟨w.heap.size, 0, none⟩ (.slice (some ⟨w2.heap.size, 0, none⟩) 1 1)).setCell ⟨w.heap.size, 1, none⟩ (.slice none 0 0)).setCell ⟨w.heap.size, 2, none⟩ (.slice none 0 0)).setCell ⟨w.heap.size, 3, none⟩ (.int .i64 0)).setCell ⟨w.heap.size, 4, none⟩ (.slice none 0 0)).setCell ⟨w.heap.size, 5, none⟩ (.slice og 3 cg)).setCell ⟨w.heap.size, 6, none⟩ (.slice (some ⟨w1.heap.size + 1, 0, none⟩) 3 3)).alloc (.cells #[.int .i64 1, .int .i64 1, .int .i64 10, .int .i64 500, .int .i64 15, .int .i64 0] 34)) = w4 at *
 have g0 := cell_of_row _ _ 0 _ _ _ HZc.out
 have g1 := cell_of_row _ _ 1 _ _ _ HZc.out
 have g2 := cell_of_row _ _ 2 _ _ _ HZc.out
 have g3 := cell_of_row _ _ 3 _ _ _ HZc.out
 have g4 := cell_of_row _ _ 4 _ _ _ HZc.out
 have g5 := cell_of_row _ _ 5 _ _ _ HZc.out
 have g6 := cell_of_row _ _ 6 _ _ _ HZc.out
 simp at g0 g1 g2 g3 g4 g5 g6
 refine bodyPost_ret (v := stV (some ⟨w2.heap.size, 0, none⟩) none none 1 1 0 0 0 0 0 none 0 0 og 3 cg (some ⟨w1.heap.size + 1, 0, none⟩) 3 3) (by simp [results, Tryz.results48, go_sem, g0, g1, g2, g3, g4, g5, g6]) rfl ⟨⟨_, _, _, _, _, _, rfl, ?_, fun k hk => by simp only [Value.ownBlock, Option.some.injEq] at hk; omega⟩, HBc.out⟩
 have hT : yJ w4 (.slice (some ⟨w2.heap.size, 0, none⟩) 1 1) xS := tiksV_own (base := 0) (L := xS) (own_lit (B := 0) (n := 1) (size := 6) HN.out (Nat.zero_le _) (by omega) rfl)
 have hW : qK w4 (.slice (some ⟨w1.heap.size + 1, 0, none⟩) 3 3) jD := vwsV_own (base := 0) (L := jD) (own_lit (B := 0) (n := 3) (size := 3) HVc.out (Nat.zero_le _) (by omega) rfl)
 exact ⟨xW.of hT (tapsV_nil _) (intsV_nil _), ⟨by simp [xS], by simp, by simp⟩, ⟨fun i p h => by simp at h, by simp, by simp, fun _ => rfl⟩, HGc.out, fun g hg => by
  simp only [xE, List.mem_cons, List.not_mem_nil, or_false] at hg
  rcases hg with rfl | rfl | rfl <;> simp [gt0], hcg, hng, by simp [xE], hW.eqs.2.1, by simp [jD], (fun h => by cases h), by simp [jD]⟩
def jW (dv : Int) (P : List TP) (n : Nat) (g : GP) : Int :=
 if xH g.i g.z g.s g.A g.v g.D g.l g.u = 0 then (if g.i = (n : Int) ∧ ¬ dv < g.v then (if P.any (twiG g.i g.s g.A) = true then 6 else 0) else 4) else xH g.i g.z g.s g.A g.v g.D g.l g.u
def gatesPF (dv : Int) (P : List TP) : Nat → List GP → Int
 | _, [] => 0
 | n, g :: L => if jW dv P n g = 0 then gatesPF dv P (n + 1) L else jW dv P n g
def gatesPE (dv : Int) (P : List TP) (G : List GP) : Int := if G.length = 3 then gatesPF dv P 0 G else 1
def chkPS (T : List TK) (P : List TP) (V : List Int) (dv : Int) (D : List Int) (L : List GP) (W : List VW) : Int :=
 if xC T P V = 0 then (if yZ dv D = 0 then (if gatesPE dv P L = 0 then yL W else gatesPE dv P L) else yZ dv D) else xC T P V
theorem gatesF_p (dv : Int) (P : List TP) : ∀ (G : List GT) (n : Nat), gatesF dv P n G = gatesPF dv P n (G.map GT.p)
 | [], n => rfl
 | g :: L, n => by
  rw [gatesF, List.map_cons, gatesPF, gatesF_p dv P L (n + 1)]
  rfl
theorem chkS_p (T : List TK) (P : List TP) (V : List Int) (dv : Int) (D : List Int) (G : List GT) (W : List VW) : yP T P V dv D G W = chkPS T P V dv D (G.map GT.p) W := by
 have h : jB dv P G = gatesPE dv P (G.map GT.p) := by
  rw [jB, gatesPE, List.length_map, gatesF_p]
 rw [yP, chkPS, h]
theorem tapS_p {T : List TK} {P : List TP} {V : List Int} {dv : Int} {D : List Int} {G : List GT} {W : List VW} {L : List GP} (h : G.map GT.p = L) (id n m : Int) : tapS T P V dv D G W id n m = if chkPS T P V dv D L W = 0 then tapR T P V dv D L W id n m else (0, chkPS T P V dv D L W) := by
 rw [tapS, chkS_p, h]
theorem sellS_p {T : List TK} {P : List TP} {V : List Int} {dv : Int} {D : List Int} {G : List GT} {W : List VW} {L : List GP} (h : G.map GT.p = L) (t : TK) : sellS T P V dv D G W t = if chkPS T P V dv D L W = 0 then sellK T P V W t else chkPS T P V dv D L W := by
 rw [sellS, chkS_p, h]
theorem syncS_p {T : List TK} {P : List TP} {V : List Int} {dv : Int} {D : List Int} {G : List GT} {W : List VW} {L : List GP} (h : G.map GT.p = L) (n m : Int) : syncS T P V dv D G W n m = if chkPS T P V dv D L W = 0 then xZ T P V dv D L W n m else chkPS T P V dv D L W := by
 rw [syncS, chkS_p, h]
def gN : List GP := [⟨0, 1, 0, [], 0, [], 9, 100⟩, ⟨1, 2, 0, [], 0, [], 9, 100⟩, ⟨2, 4, 0, [], 0, [], 9, 100⟩]
def gB : List GP := [⟨0, 1, 1, [⟨1, 0, 1, 20, 1⟩], 0, [], 8, 100⟩, ⟨1, 2, 0, [], 0, [], 9, 100⟩, ⟨2, 4, 0, [], 0, [], 9, 100⟩]
theorem newG_p : xE.map GT.p = gN := rfl
theorem ev_hall : tapS xS [] [] 0 [] xE jD 1 0 20 = (1, 0) := by rw [tapS_p newG_p]; decide +kernel
theorem ev_alone : tapS xS [] [] 0 [] xE newV 1 0 20 = (0, 0) := by rw [tapS_p newG_p]; decide +kernel
theorem ev_b {G : List GT} (h : G.map GT.p = gB) : (tapS xS [] [] 0 [] G jD 1 0 90).2 = 10 := by rw [tapS_p h]; decide +kernel
theorem ev_sell : sellS xS [] [] 0 [] xE jD ⟨2, 1, 10, 500, 15, 0⟩ = 0 := by rw [sellS_p newG_p]; decide +kernel
theorem ev_sell4 : sellS xS [] [] 0 [] xE newV ⟨2, 1, 10, 500, 15, 0⟩ = 4 := by rw [sellS_p newG_p]; decide +kernel
theorem srt_one : srt [(⟨1, 0, 1, 20, 1⟩ : TP)] = [⟨1, 0, 1, 20, 1⟩] := by simp [srt]
theorem into_b : qD xS [] [(⟨1, 0, 1, 20, 1⟩ : TP)] = (0, [⟨1, 0, 1, 20, 1⟩], [1], []) := by
 rw [qD, List.nil_append, srt_one]
 rfl
theorem into_e : qC xS [] [] [(⟨1, 0, 1, 20, 1⟩ : TP)] = 0 := by
 rw [qC, if_pos (by decide +kernel), if_neg (by decide), if_pos (by decide +kernel), into_b]
theorem ev_sync {G : List GT} (h : G.map GT.p = gB) : syncS xS [] [] 0 [] G jD 0 50 = 0 := by
 rw [syncS_p h, if_pos (by decide +kernel), xZ, if_neg (by decide), syncK, if_pos (by decide +kernel), if_pos (by decide +kernel)]
 exact into_e
theorem tapHall {w : World} {o1 o2 o3 od og ov : Option Addr} {c1 c2 c3 cd cg cv : Nat} (hs : StW w o1 o2 o3 c1 c2 c3 xS [] [] od cd [] og cg xE ov cv jD) : Calls Tryz.prog 47 #[stV o1 o2 o3 1 c1 0 c2 0 c3 0 od 0 cd og 3 cg ov 3 cv, .int .i64 1, .int .i64 0, .int .i64 20] w fun e w' => (∃ x1 y1 x2 y2 x3 y3 x4 y4 x5 y5 x6 y6, e = .returned (.tuple #[stV x1 x2 x3 1 y1 1 y2 1 y3 0 x4 0 y4 x5 3 y5 x6 3 y6, .int .i64 1, .int .i64 0])) ∧ Below w.heap.size w w' := by
 refine (jX xS [] [] 0 [] xE jD o1 o2 o3 od og ov c1 c2 c3 cd cg cv 1 0 20 w hs).mono ?_
 rintro e w' ⟨⟨v, R, hR, rfl, -, h2⟩, hb⟩
 rw [ev_hall] at hR
 subst hR
 obtain ⟨G', hm, hr⟩ := h2 rfl
 obtain ⟨x1, y1, x2, y2, x3, y3, x4, y4, x5, y5, x6, y6, rfl, -⟩ := hr.of
 have hl : G'.length = 3 := by have := congrArg List.length hm; simpa [xE] using this
 exact ⟨⟨x1, y1, x2, y2, x3, y3, x4, y4, x5, y5, x6, y6, by rw [hl]; rfl⟩, hb⟩
theorem tapAlone {w : World} {o1 o2 o3 od og ov : Option Addr} {c1 c2 c3 cd cg cv : Nat} (hs : StW w o1 o2 o3 c1 c2 c3 xS [] [] od cd [] og cg xE ov cv newV) : Calls Tryz.prog 47 #[stV o1 o2 o3 1 c1 0 c2 0 c3 0 od 0 cd og 3 cg ov 3 cv, .int .i64 1, .int .i64 0, .int .i64 20] w fun e w' => (∃ x1 y1 x2 y2 x3 y3 x4 y4 x5 y5 x6 y6 G', e = .returned (.tuple #[stV x1 x2 x3 1 y1 0 y2 0 y3 0 x4 0 y4 x5 3 y5 x6 3 y6, .int .i64 0, .int .i64 0]) ∧ G'.map GT.p = gB ∧ StW w' x1 x2 x3 y1 y2 y3 xS [] [] x4 y4 [] x5 y5 G' x6 y6 newV) ∧ Below w.heap.size w w' := by
 refine (jX xS [] [] 0 [] xE newV o1 o2 o3 od og ov c1 c2 c3 cd cg cv 1 0 20 w hs).mono ?_
 rintro e w' ⟨⟨v, R, hR, rfl, -, h2⟩, hb⟩
 rw [ev_alone] at hR
 subst hR
 obtain ⟨G', hm, hr⟩ := h2 rfl
 have e1 : pTap newV (gAt (xE.map GT.p) 0) [] 1 0 20 = [] := by decide +kernel
 have e2 : vTap newV (gAt (xE.map GT.p) 0) [] (0, 0).1 = [] := by decide +kernel
 have e3 : (xE.map GT.p).set (0 : Int).toNat (gTap newV (gAt (xE.map GT.p) 0) (tAt xS 1) 20) = gB := by rfl
 rw [e1, e2] at hr
 rw [e3] at hm
 obtain ⟨x1, y1, x2, y2, x3, y3, x4, y4, x5, y5, x6, y6, rfl, hs, -⟩ := hr.of
 have hl : G'.length = 3 := by have := congrArg List.length hm; simpa [gB] using this
 exact ⟨⟨x1, y1, x2, y2, x3, y3, x4, y4, x5, y5, x6, y6, G', by rw [hl]; rfl, hm, hs⟩, hb⟩
theorem tapB {w : World} {o1 o2 o3 od og ov : Option Addr} {c1 c2 c3 cd cg cv : Nat} {G : List GT} (hm : G.map GT.p = gB) (hs : StW w o1 o2 o3 c1 c2 c3 xS [] [] od cd [] og cg G ov cv jD) : Calls Tryz.prog 47 #[stV o1 o2 o3 1 c1 0 c2 0 c3 0 od 0 cd og 3 cg ov 3 cv, .int .i64 1, .int .i64 0, .int .i64 90] w fun e w' => (∃ v, e = .returned (.tuple #[stV none none none 0 0 0 0 0 0 0 none 0 0 none 0 0 none 0 0, .int .i64 v, .int .i64 10])) ∧ Below w.heap.size w w' := by
 have hl : G.length = 3 := by have := congrArg List.length hm; simpa [gB] using this
 have h := jX xS [] [] 0 [] G jD o1 o2 o3 od og ov c1 c2 c3 cd cg cv 1 0 90 w hs
 rw [hl] at h
 refine h.mono ?_
 rintro e w' ⟨⟨v, R, hR, rfl, h1, -⟩, hb⟩
 have h10 : R.2 = 10 := by rw [hR]; exact ev_b hm
 rw [h1 (by omega), h10]
 exact ⟨⟨_, rfl⟩, hb⟩
theorem sellHall {w : World} {o1 o2 o3 od og ov : Option Addr} {c1 c2 c3 cd cg cv : Nat} (hs : StW w o1 o2 o3 c1 c2 c3 xS [] [] od cd [] og cg xE ov cv jD) : Calls Tryz.prog 49 #[stV o1 o2 o3 1 c1 0 c2 0 c3 0 od 0 cd og 3 cg ov 3 cv, tk 2 1 10 500 15 0] w fun e w' => (∃ x1 y1 x2 y2 x3 y3 x4 y4 x5 y5 x6 y6, e = .returned (.tuple #[stV x1 x2 x3 2 y1 0 y2 0 y3 0 x4 0 y4 x5 3 y5 x6 3 y6, .int .i64 0])) ∧ Below w.heap.size w w' := by
 refine (stationSell_any xS [] [] 0 [] xE jD o1 o2 o3 od og ov c1 c2 c3 cd cg cv 2 1 10 500 15 0 w hs).mono ?_
 rintro e w' ⟨⟨v, rfl, -, h2⟩, hb⟩
 rw [ev_sell] at h2 ⊢
 obtain ⟨G', hm, hr⟩ := h2 rfl
 obtain ⟨x1, y1, x2, y2, x3, y3, x4, y4, x5, y5, x6, y6, rfl, -⟩ := hr.of
 have hl : G'.length = 3 := by have := congrArg List.length hm; simpa [xE] using this
 exact ⟨⟨x1, y1, x2, y2, x3, y3, x4, y4, x5, y5, x6, y6, by rw [hl]; rfl⟩, hb⟩
theorem sellAlone4 {w : World} {o1 o2 o3 od og ov : Option Addr} {c1 c2 c3 cd cg cv : Nat} (hs : StW w o1 o2 o3 c1 c2 c3 xS [] [] od cd [] og cg xE ov cv newV) : Calls Tryz.prog 49 #[stV o1 o2 o3 1 c1 0 c2 0 c3 0 od 0 cd og 3 cg ov 3 cv, tk 2 1 10 500 15 0] w fun e w' => e = .returned (.tuple #[stV none none none 0 0 0 0 0 0 0 none 0 0 none 0 0 none 0 0, .int .i64 4]) ∧ Below w.heap.size w w' := by
 refine (stationSell_any xS [] [] 0 [] xE newV o1 o2 o3 od og ov c1 c2 c3 cd cg cv 2 1 10 500 15 0 w hs).mono ?_
 rintro e w' ⟨⟨v, rfl, h1, -⟩, hb⟩
 rw [ev_sell4] at h1 ⊢
 rw [h1 (by decide)]
 exact ⟨rfl, hb⟩
theorem syncB {w : World} {o1 o2 o3 od og ov : Option Addr} {c1 c2 c3 cd cg cv : Nat} {G : List GT} (hm : G.map GT.p = gB) (hs : StW w o1 o2 o3 c1 c2 c3 xS [] [] od cd [] og cg G ov cv jD) : Calls Tryz.prog 23 #[stV o1 o2 o3 1 c1 0 c2 0 c3 0 od 0 cd og 3 cg ov 3 cv, .int .i64 0, .int .i64 50] w fun e w' => (∃ x1 y1 x2 y2 x3 y3 x4 y4 x5 y5 x6 y6 o c, e = .returned (.tuple #[stV x1 x2 x3 1 y1 1 y2 1 y3 0 x4 0 y4 x5 3 y5 x6 3 y6, .slice o 0 c, .int .i64 0])) ∧ Below w.heap.size w w' := by
 have hl : G.length = 3 := by have := congrArg List.length hm; simpa [gB] using this
 have h := stationSync_any xS [] [] 0 [] G jD o1 o2 o3 od og ov c1 c2 c3 cd cg cv 0 50 w hs
 rw [hl] at h
 refine h.mono ?_
 rintro e w' ⟨⟨v, E, M, o, c, hE, hM, rfl, -, -, h2⟩, hb⟩
 have hE0 : E = 0 := by rw [hE]; exact ev_sync hm
 subst hE0
 obtain ⟨G', hm', hr⟩ := h2 rfl
 have hA : (gAt (G.map GT.p) 0).A = [⟨1, 0, 1, 20, 1⟩] := by rw [hm]; rfl
 have hD : zS xS [] [] (G.map GT.p) 0 0 = [] := by rw [zS, if_pos rfl, hA, qL, if_pos into_e, into_b]
 rw [hD, hA, xV, xR, xY, if_pos into_e, if_pos into_e, if_pos into_e, into_b] at hr
 have hc : yP xS [] [] 0 [] G jD = 0 := by rw [chkS_p, hm]; decide +kernel
 rw [if_pos hc, hD] at hM
 subst hM
 obtain ⟨x1, y1, x2, y2, x3, y3, x4, y4, x5, y5, x6, y6, rfl, -⟩ := hr.of
 have hl' : G'.length = 3 := by have := congrArg List.length hm'; simpa [hl] using this
 exact ⟨⟨x1, y1, x2, y2, x3, y3, x4, y4, x5, y5, x6, y6, o, c, by rw [hl']; rfl⟩, hb⟩
theorem ev_new : yP [] [] [] 0 [] xE newV = 0 := by rw [chkS_p, newG_p]; decide +kernel
theorem zip_snoc {P : List TP} {V : List Int} (h : V.length = P.length) (p : TP) (v : Int) : (P ++ [p]).zip (V ++ [v]) = P.zip V ++ [(p, v)] := by
 rw [List.zip_append h.symm]
 rfl
theorem tapsE_all {T : List TK} {P : List TP} {V : List Int} (h : tapsE T P V = 0) : ∀ j, j < P.length → errP T P V j = 0 := fun j hj => jO _ h _ (List.mem_map.2 ⟨j, List.mem_range.2 hj, rfl⟩)
theorem errP_old {T : List TK} {P : List TP} {V : List Int} (h : V.length = P.length) (p : TP) (v : Int) (j : Nat) (hj : j < P.length) : errP T (P ++ [p]) (V ++ [v]) j = errP T P V j := by
 have g1 : (P ++ [p]).getD j tp0 = P.getD j tp0 := by simp only [List.getD, List.getElem?_append_left hj]
 have g2 : (P ++ [p]).getD (j - 1) tp0 = P.getD (j - 1) tp0 := by simp only [List.getD, List.getElem?_append_left (show j - 1 < P.length by omega)]
 have g3 : (V ++ [v]).getD j 0 = V.getD j 0 := by simp only [List.getD, List.getElem?_append_left (show j < V.length by omega)]
 have g4 : (P ++ [p]).take j = P.take j := List.take_append_of_le_length (by omega)
 have g5 : ((P ++ [p]).zip (V ++ [v])).take j = (P.zip V).take j := by rw [zip_snoc h, List.take_append_of_le_length (by rw [List.length_zip]; omega)]
 unfold errP verd
 rw [g1, g2, g3, g4, g5]
theorem errP_all_chk {T : List TK} {P : List TP} {V : List Int} (h : tapsE T P V = 0) : ∀ x ∈ P, yK x = 0 := by
 intro x hx
 obtain ⟨j, hj⟩ := List.mem_iff_getElem?.1 hx
 exact errP_chk hj (tapsE_all h j (List.getElem?_eq_some_iff.1 hj).1)
theorem enter_right {T : List TK} {P : List TP} {V : List Int} {p : TP} (h : (zO T P V p).2 = 0) :
  xC T P V = 0 ∧ unf T P p = 0 ∧ earlyB P p.m = false ∧ (judB T (P.zip V) p).2 = 0 ∧ P.length < 60 ∧ (zO T P V p).1 = (judB T (P.zip V) p).1 := by
 by_cases h1 : xC T P V = 0
 ·by_cases h2 : unf T P p = 0
  ·cases h3 : earlyB P p.m
   ·by_cases h4 : (judB T (P.zip V) p).2 = 0
    ·by_cases h5 : P.length = 60
     ·simp [zO, h1, h2, h3, h4, h5] at h
     ·have := (zW h1).2.1
      refine ⟨h1, h2, rfl, h4, by omega, ?_⟩
      simp [zO, h1, h2, h3, h4, h5]
    ·simp [zO, h1, h2, h3, h4] at h
   ·simp [zO, h1, h2, h3] at h
  ·simp [zO, h1, h2] at h
 ·simp [zO, h1] at h
theorem judge_ok {k f t z r last rides m zone : Int} (h : (judge k f t z r last rides m zone).2 = 0) : (judge k f t z r last rides m zone).1 = 2 ∨ ((judge k f t z r last rides m zone).1 = 1 ∧ ¬ ((k = 1 ∧ 0 < rides) ∨ (k = 3 ∧ r ≤ rides))) := by
 unfold judge at h ⊢
 by_cases h1 : place f t z m zone = 0
 ·rw [if_neg (by simpa using h1)] at h ⊢
  by_cases h2 : 0 ≤ last ∧ last ≤ m ∧ m < last + 60
  ·rw [if_pos h2]; exact Or.inl rfl
  ·rw [if_neg h2] at h ⊢
   by_cases h3 : (k = 1 ∧ 0 < rides) ∨ (k = 3 ∧ r ≤ rides)
   ·rw [if_pos h3] at h; simp at h
   ·rw [if_neg h3]; exact Or.inr ⟨rfl, h3⟩
 ·rw [if_pos h1] at h
  exact absurd h h1
theorem enter_verd {T : List TK} {P : List TP} {V : List Int} {p : TP} (h : (zO T P V p).2 = 0) : (zO T P V p).1 = 1 ∨ (zO T P V p).1 = 2 := by
 obtain ⟨h1, h2, h3, h4, h5, h6⟩ := enter_right h
 obtain ⟨r1, r2, r3, r4, r5⟩ := zW h1
 have hu := unf_has h2
 have e := judB_verd (V := V) (i := P.length) (rising_of r4) (checked_of r4) (fun x hx => errP_all_chk r5 x (List.mem_of_mem_take hx)) r2 hu.1 hu.2.1
 rw [List.take_of_length_le (by rw [List.length_zip]; omega)] at e
 rw [h6, e]
 rw [e] at h4
 unfold verd at h4 ⊢
 rcases judge_ok h4 with h | h
 ·exact Or.inr h
 ·exact Or.inl h.1
theorem enter_chk {T : List TK} {P : List TP} {V : List Int} {p : TP} (h : (zO T P V p).2 = 0) : xC T (P ++ [p]) (V ++ [(zO T P V p).1]) = 0 := by
 obtain ⟨h1, h2, h3, h4, h5, h6⟩ := enter_right h
 obtain ⟨r1, r2, r3, r4, r5⟩ := zW h1
 refine chkL_ok (by simp; omega) (ticksE_all r4) (fun j hj => ?_)
 rw [List.length_append, List.length_singleton] at hj
 rcases Nat.lt_or_ge j P.length with hlt | hge
 ·rw [errP_old r3 p _ j hlt]
  exact tapsE_all r5 j hlt
 ·obtain rfl : j = P.length := by omega
  have t1 : (P ++ [p]).take P.length = P := by simp
  have t2 : (V ++ [(zO T P V p).1]).take P.length = V := by rw [← r3]; simp
  have e := tapE_errP (T := T) (P := P ++ [p]) (V := V ++ [(zO T P V p).1]) (q := P.length) (p := p) (v := (zO T P V p).1) (rising_of r4) (checked_of r4) r2 (fun x hx => errP_all_chk r5 x (by rw [t1] at hx; exact hx)) (by simp) (by rw [← r3]; simp)
  rw [← e, t1, t2]
  have hv : wi (zO T P V p).1 1 2 = true := by
   rw [yO]
   rcases enter_verd h with e | e <;> omega
  unfold tapE
  rw [h2, hv, h3, h6]
  simp [zG]
theorem hasT_mem {T : List TK} {x : TK} (hx : x ∈ T) : qF T x.i = true := by
 rw [qF, List.any_eq_true]
 exact ⟨x, hx, by simp⟩
theorem rising_iff (T : List TK) : jK T ↔ T.Pairwise (fun x y => x.i < y.i) := by
 rw [List.pairwise_iff_getElem]
 constructor
 ·intro h i j hi hj hij
  exact h i j T[i] T[j] (by simp) (by simp) hij
 ·intro h p q x y hx hy hpq
  obtain ⟨h1, rfl⟩ := List.getElem?_eq_some_iff.1 hx
  obtain ⟨h2, rfl⟩ := List.getElem?_eq_some_iff.1 hy
  exact h p q h1 h2 hpq
theorem ticksE_of {T : List TK} (hr : jK T) (hc : ∀ x ∈ T, jV x = 0) : qN T = 0 := by
 refine ticksE_ok fun j hj => ?_
 obtain ⟨p, hp⟩ : ∃ p, T[j]? = some p := ⟨T[j], by simp [hj]⟩
 rcases errK_cases hp with ⟨h1, h2⟩ | ⟨h1, h2, h3, h4⟩ | ⟨h1, h2, h3⟩
 ·exact absurd (hc p (List.mem_of_getElem? hp)) h1
 ·exfalso
  obtain ⟨y, hy⟩ : ∃ y, T[j - 1]? = some y := ⟨T[j - 1]'(by omega), by simp⟩
  have := hr (j - 1) j y p hy hp (by omega)
  rw [show T.getD (j - 1) tk0 = y by simp [List.getD, hy]] at h3
  omega
 ·exact h3
theorem idx_get {T : List TK} (hr : jK T) {x : TK} (hx : x ∈ T) {id : Int} (h : x.i = id) : T.getD (qM T id).toNat tk0 = x := by
 have hh : qF T id = true := by
  rw [qF, List.any_eq_true]
  exact ⟨x, hx, by simp [h]⟩
 obtain ⟨y, hy, hyi, hyx⟩ := hasT_pos hr hh
 have : y = x := by
  obtain ⟨q, hq⟩ := List.mem_iff_getElem?.1 hx
  rcases Nat.lt_trichotomy (qA T id) q with h' | h' | h'
  ·have := hr _ _ _ _ hy hq h'; omega
  ·rw [h', hq] at hy; cases hy; rfl
  ·have := hr _ _ _ _ hq hy h'; omega
 rw [hyx, show ((qA T id : Int)).toNat = qA T id from rfl]
 simp [List.getD, hy, this]
theorem soldT_mem {T : List TK} {t x : TK} : x ∈ qI T t ↔ x ∈ T ∨ x = t := by
 unfold qI
 simp only [List.mem_append, List.mem_singleton]
 constructor
 ·rintro ((h | h) | h)
  ·exact Or.inl (List.mem_of_mem_take h)
  ·exact Or.inr h
  ·exact Or.inl (List.mem_of_mem_drop h)
 ·rintro (h | h)
  ·rw [← List.take_append_drop (qA T t.i) T, List.mem_append] at h
   rcases h with h | h
   ·exact Or.inl (Or.inl h)
   ·exact Or.inr h
  ·exact Or.inl (Or.inr h)
theorem soldT_len {T : List TK} {t : TK} : (qI T t).length = T.length + 1 := by
 have h : qA T t.i ≤ T.length := by unfold qA; exact List.findIdx_le_length
 unfold qI
 simp
 omega
theorem soldT_rising {T : List TK} {t : TK} (hr : jK T) (hn : qF T t.i = false) : jK (qI T t) := by
 have hp := (rising_iff T).1 hr
 rw [qF, List.any_eq_false] at hn
 have hlo : ∀ x ∈ T.take (qA T t.i), x.i < t.i := by
  intro x hx
  obtain ⟨j, hj⟩ := List.mem_iff_getElem?.1 hx
  rw [List.getElem?_take] at hj
  split at hj
  ·rename_i hlt
   obtain ⟨h1, rfl⟩ := List.getElem?_eq_some_iff.1 hj
   have := List.not_of_lt_findIdx (p := fun x : TK => decide (t.i ≤ x.i)) hlt
   simpa using this
  ·cases hj
 have hhi : ∀ x ∈ T.drop (qA T t.i), t.i < x.i := by
  intro x hx
  have hne := hn x (List.mem_of_mem_drop hx)
  obtain ⟨j, hj⟩ := List.mem_iff_getElem?.1 hx
  rw [List.getElem?_drop] at hj
  obtain ⟨h1, rfl⟩ := List.getElem?_eq_some_iff.1 hj
  have hlt : qA T t.i < T.length := by omega
  have h0 := List.findIdx_getElem (p := fun x : TK => decide (t.i ≤ x.i)) (w := hlt)
  have h0' : t.i ≤ (T[qA T t.i]'hlt).i := of_decide_eq_true h0
  have hle : (T[qA T t.i]'hlt).i ≤ (T[qA T t.i + j]'h1).i := by
   rcases Nat.eq_zero_or_pos j with rfl | hj0
   ·simp
   ·have := hr (qA T t.i) (qA T t.i + j) (T[qA T t.i]'hlt) (T[qA T t.i + j]'h1) (by simp) (by simp) (by omega)
    omega
  simp at hne
  omega
 rw [rising_iff]
 rw [← List.take_append_drop (qA T t.i) T, List.pairwise_append] at hp
 unfold qI
 rw [List.pairwise_append, List.pairwise_append]
 refine ⟨⟨hp.1, by simp, fun x hx y hy => ?_⟩, hp.2.1, fun x hx y hy => ?_⟩
 ·simp at hy
  subst hy
  exact hlo x hx
 ·rw [List.mem_append, List.mem_singleton] at hx
  rcases hx with hx | rfl
  ·exact hp.2.2 x hx y hy
  ·exact hhi y hy
theorem sell_right {T : List TK} {P : List TP} {V : List Int} {t : TK} (h : sellE T P V t = 0) : xC T P V = 0 ∧ jV t = 0 ∧ qF T t.i = false ∧ T.length ≠ 12 := by
 have h0 := jO _ h
 refine ⟨h0 _ (by simp), h0 _ (by simp), ?_, ?_⟩
 ·have := h0 (if qF T t.i = true then 6 else 0) (by simp)
  cases hc : qF T t.i
  ·rfl
  ·simp [hc] at this
 ·have := h0 (if T.length = 12 then 2 else 0) (by simp)
  intro hc
  simp [hc] at this
theorem sell_chk {T : List TK} {P : List TP} {V : List Int} {t : TK} (h : sellE T P V t = 0) : xC (qI T t) P V = 0 := by
 obtain ⟨h1, h2, h3, h4⟩ := sell_right h
 obtain ⟨r1, r2, r3, r4, r5⟩ := zW h1
 have hr := rising_of r4
 have hr' := soldT_rising hr h3
 have htk : qN (qI T t) = 0 := ticksE_of hr' (fun x hx => by
  rcases soldT_mem.1 hx with hx | rfl
  ·exact checked_of r4 x hx
  ·exact h2)
 refine chkL_ok (by rw [soldT_len]; omega) (ticksE_all htk) (fun j hj => ?_)
 have hE := tapsE_all r5 j hj
 have h0 := jO _ hE
 have hh : qF T (P.getD j tp0).a = true := by
  have := h0 (if qM T (P.getD j tp0).a < 0 then 5 else 0) (by simp)
  cases hc : qF T (P.getD j tp0).a
  ·rw [if_pos (hasT_idx.2 hc)] at this; cases this
  ·rfl
 obtain ⟨x, hx, hxi, -⟩ := hasT_pos hr hh
 have hxT := List.mem_of_getElem? hx
 have g1 := idx_get hr hxT hxi
 have g2 := idx_get hr' (soldT_mem.2 (Or.inl hxT)) hxi
 have hn : ¬ qM (qI T t) (P.getD j tp0).a < 0 := fun hlt => by
  have h6 := hasT_idx.1 hlt
  have h7 := hasT_mem (soldT_mem.2 (Or.inl hxT) : x ∈ qI T t)
  rw [hxi, h6] at h7
  cases h7
 have hn' : ¬ qM T (P.getD j tp0).a < 0 := fun hlt => by rw [hasT_idx.1 hlt] at hh; cases hh
 rw [← hE]
 unfold errP verd
 rw [g1, g2, if_neg hn, if_neg hn']
theorem errP_take {T : List TK} {P : List TP} {V : List Int} (n j : Nat) (hj : j < n) : errP T (P.take n) (V.take n) j = errP T P V j := by
 have g1 : (P.take n).getD j tp0 = P.getD j tp0 := by simp only [List.getD, List.getElem?_take, if_pos hj]
 have g2 : (P.take n).getD (j - 1) tp0 = P.getD (j - 1) tp0 := by simp only [List.getD, List.getElem?_take, if_pos (show j - 1 < n by omega)]
 have g3 : (V.take n).getD j 0 = V.getD j 0 := by simp only [List.getD, List.getElem?_take, if_pos hj]
 have g4 : (P.take n).take j = P.take j := by rw [List.take_take, Nat.min_eq_left (by omega)]
 have g5 : ((P.take n).zip (V.take n)).take j = (P.zip V).take j := by rw [zip_take, List.take_take, Nat.min_eq_left (by omega)]
 unfold errP verd
 rw [g1, g2, g3, g4, g5]
theorem prefix_chk {T : List TK} {P : List TP} {V : List Int} (h : xC T P V = 0) (n : Nat) (hn : n ≤ P.length) : xC T (P.take n) (V.take n) = 0 := by
 obtain ⟨r1, r2, r3, r4, r5⟩ := zW h
 refine chkL_ok (by rw [List.length_take, List.length_take]; omega) (ticksE_all r4) (fun j hj => ?_)
 rw [List.length_take] at hj
 rw [errP_take n j (by omega)]
 exact tapsE_all r5 j (by omega)
theorem bldA_perm (T : List TK) : ∀ (L P : List TP) (V : List Int) (D : List TP), (jJ T L P V D).1 = 0 → ((jJ T L P V D).2.1 ++ (jJ T L P V D).2.2.2).Perm ((P ++ D) ++ L)
 | [], P, V, D, _ => by simp [jJ]
 | p :: L, P, V, D, h => by
  unfold jJ at h ⊢
  by_cases h1 : bldE T P V p = 0
  ·rw [if_pos h1] at h ⊢
   refine (bldA_perm T L _ _ _ h).trans ?_
   unfold bldE at h1
   unfold bldP bldD
   by_cases h2 : (zO T P V p).2 = 0
   ·rw [if_pos h2, if_pos h2]
    have : ((P ++ [p]) ++ D).Perm ((P ++ D) ++ [p]) := by
     rw [List.append_assoc, List.append_assoc]
     exact List.Perm.append_left P List.perm_append_comm
    simpa using this.append_right L
   ·rw [if_neg h2] at h1
    by_cases h3 : (zO T P V p).1 = 3 ∨ (zO T P V p).2 = 5
    ·rw [if_neg h2, if_neg h2, if_pos h3]
     simp
    ·rw [if_neg h3] at h1
     exact absurd h1 h2
  ·rw [if_neg h1] at h
   exact absurd h h1
theorem bldA_chk (T : List TK) : ∀ (L P : List TP) (V : List Int) (D : List TP), xC T P V = 0 → xC T (jJ T L P V D).2.1 (jJ T L P V D).2.2.1 = 0
 | [], P, V, D, h => h
 | p :: L, P, V, D, h => by
  unfold jJ
  by_cases h1 : bldE T P V p = 0
  ·rw [if_pos h1]
   refine bldA_chk T L _ _ _ ?_
   unfold bldP bldV
   by_cases h2 : (zO T P V p).2 = 0
   ·rw [if_pos h2, if_pos h2]
    exact enter_chk h2
   ·rw [if_neg h2, if_neg h2]
    exact h
  ·rw [if_neg h1]
   exact h
theorem chkL_nil {T : List TK} {P : List TP} {V : List Int} (h : xC T P V = 0) : xC T [] [] = 0 := by
 simpa using prefix_chk h 0 (Nat.zero_le _)
theorem into_right {T : List TK} {P : List TP} {V : List Int} {M : List TP} (h : qC T P V M = 0) : xC T P V = 0 ∧ M.length ≤ 12 ∧ ordE (P ++ M) = 0 ∧ (qD T P M).1 = 0 ∧ xV T P V M = T ∧ xR T P V M = (qD T P M).2.1 ∧ xY T P V M = (qD T P M).2.2.1 ∧ qL T P V M = (qD T P M).2.2.2 := by
 have hh : xV T P V M = T ∧ xR T P V M = (qD T P M).2.1 ∧ xY T P V M = (qD T P M).2.2.1 ∧ qL T P V M = (qD T P M).2.2.2 := ⟨if_pos h, if_pos h, if_pos h, if_pos h⟩
 rcases into_ways T P V M with ⟨h1, h2⟩ | ⟨h1, h3, h2⟩ | ⟨h1, h3, h4, h2⟩ | ⟨h1, h3, h4, h5, h2⟩ | ⟨h1, h3, h4, h5, h2⟩
 ·rw [h2] at h; simp [h] at h1
 ·rw [h2] at h; cases h
 ·rw [h2] at h; simp [h] at h4
 ·rw [h2] at h; simp [h] at h5
 ·exact ⟨h1, h3, h4, h5, hh⟩
theorem into_perm {T : List TK} {P : List TP} {V : List Int} {M : List TP} (h : qC T P V M = 0) : (xR T P V M ++ qL T P V M).Perm (P ++ M) := by
 obtain ⟨h1, h2, h3, h4, -, e2, -, e4⟩ := into_right h
 rw [e2, e4]
 refine (bldA_perm T (srt (P ++ M)) [] [] [] h4).trans ?_
 simpa using srt_perm (P ++ M)
theorem into_chk {T : List TK} {P : List TP} {V : List Int} {M : List TP} (h : qC T P V M = 0) : xC (xV T P V M) (xR T P V M) (xY T P V M) = 0 := by
 obtain ⟨h1, h2, h3, h4, e1, e2, e3, -⟩ := into_right h
 rw [e1, e2, e3]
 exact bldA_chk T _ _ _ _ (chkL_nil h1)
theorem yU {w : World} {base n : Nat} {e : TypeId} {size : Nat} {v : Value} {xs : List Value} (h : w.ownsRow base e size v n xs) (hn : 0 < n) : ∃ g c, v = .slice (some ⟨g, 0, none⟩) n c ∧ base ≤ g ∧ n ≤ c := by
 have hl := h.lt
 rcases h.2 with ⟨-, h0⟩ | ⟨g, c, cur, rfl, h1, h2, h3, h4⟩
 ·omega
 ·exact ⟨g, c, rfl, (hl g rfl).1, h3⟩
end
section
open Go.RowKit
section
variable {T : List TK} {P : List TP} {V : List Int} {dv : Int} {D : List Int} {G : List GT} {W : List VW}
theorem gAt_of {q : Nat} {g : GT} (hq : G[q]? = some g) : gAt (G.map GT.p) (q : Int) = g.p := by
 rw [gAt, Int.toNat_natCast, List.getD_eq_getElem?_getD, List.getElem?_map, hq]
 rfl
end
end
section
open Go.RowKit
theorem errA_snoc (i z : Int) (l : Option TP) (P : List TP) (p : TP) (h1 : qZ i z l P = 0) (h2 : yK p = 0) (h3 : okA i z (P.getLast?.or l) p = true) : qZ i z l (P ++ [p]) = 0 := by
 induction P generalizing l with
 | nil =>
  simp only [List.getLast?_nil, Option.none_or] at h3
  simp only [List.nil_append, qZ, h2, h3, if_true]
 | cons x P ih =>
  rcases errA_ways i z l x P with ⟨g1, g2⟩ | ⟨g1, g2, g3⟩ | ⟨g1, g2, g3⟩
  ·rw [g2] at h1; rw [h1] at g1; cases g1
  ·omega
  ·rw [List.cons_append, qZ, if_pos g1, if_pos g2]
   refine ih (some x) (g3.symm.trans h1) ?_
   rw [List.getLast?_cons] at h3
   cases hP : P.getLast? with
   | none => rw [hP] at h3; simpa using h3
   | some y => rw [hP] at h3; simpa using h3
theorem tapG_right {i z s : Int} {P : List TP} {v : Int} {D : List Int} {l u : Int} {x : TK} {m : Int} (h : tapG i z s P v D l u x m = 0) : unfG i z s P v D l u x m = 0 ∧ shutG D u z x m = 0 ∧ spentG P l x = false ∧ fullG P.length s = false := by
 rcases tapG_ways i z s P v D l u x m with ⟨h1, h2⟩ | ⟨h1, h2, h3⟩ | ⟨h1, h2, h3, h4⟩ | ⟨h1, h2, h3, h4, h5⟩ | ⟨h1, h2, h3, h4, h5⟩
 ·rw [h2] at h; rw [h] at h1; cases h1
 ·rw [h3] at h; rw [h] at h2; cases h2
 ·omega
 ·omega
 ·exact ⟨h1, h2, h3, h4⟩
theorem aloneE_right {i z s : Int} {P : List TP} (h : qE i z s P = 0) : qZ i z none P = 0 ∧ errQ s P = 0 := by
 rw [qE] at h
 split at h
 ·rename_i h1; exact ⟨h1, h⟩
 ·rename_i h1; exact absurd h h1
theorem errB_zero {l u : Int} : errB l u = 0 ↔ (0 ≤ l ∧ l ≤ 9) ∧ (0 ≤ u ∧ u ≤ 10099) := by
 rw [errB]
 by_cases h : (wi l 0 9 && wi u 0 10099) = true
 ·rw [if_pos h]
  rw [Bool.and_eq_true, yO, yO] at h
  exact ⟨fun _ => h, fun _ => rfl⟩
 ·rw [if_neg h]
  rw [Bool.and_eq_true, yO, yO] at h
  exact ⟨fun h' => by omega, fun h' => absurd h' h⟩
theorem errS_zero {i z s : Int} {n : Nat} (h1 : 0 ≤ i ∧ i ≤ 2) (h2 : 0 ≤ s ∧ s ≤ 99) (h3 : isZ z = true) (h4 : n ≤ 12) : errS i z s n = 0 := by
 rw [errS, (yO i 0 2).2 h1, (yO s 0 99).2 h2, h3, if_neg (by decide), if_neg (by decide), if_neg (by omega)]
theorem chkG_of {i z s : Int} {P : List TP} {v : Int} {D : List Int} {l u : Int} (h1 : errS i z s P.length = 0) (h2 : qE i z s P = 0) (h3 : yZ v D = 0) (h4 : errB l u = 0) : xH i z s P v D l u = 0 := by
 rw [xH, if_pos h1, if_pos h2, if_pos h3, h4]
theorem chkG_tap {i z s : Int} {P : List TP} {v : Int} {D : List Int} {l u : Int} {x : TK} {m : Int} (h : tapG i z s P v D l u x m = 0) : xH i z (s + 1) (P ++ [⟨x.i, i, s + 1, m, z⟩]) v D (l - 1) u = 0 := by
 obtain ⟨h1, h2, h3, h4⟩ := tapG_right h
 obtain ⟨g1, g2, g3, g4⟩ := unfG_right h1
 obtain ⟨c1, c2, c3, c4⟩ := jQ g1
 obtain ⟨s1, s2, s3, s4⟩ := errS_right c1
 obtain ⟨a1, a2⟩ := aloneE_right c2
 have b := errB_zero.1 c4
 have hm := (yO _ _ _).1 g3
 have hk := chk_right (show chk x.i x.k x.f x.t x.z x.r = 0 from g2)
 rw [fullG, Bool.or_eq_false_iff] at h4
 have f1 : ¬ (P.length : Int) = 12 := by simpa using h4.1
 have f2 : ¬ s = 99 := by simpa using h4.2
 rw [spentG, Bool.or_eq_false_iff] at h3
 have l0 : ¬ l = 0 := by simpa using h3.1
 have hp : yK ⟨x.i, i, s + 1, m, z⟩ = 0 := by
  show vB x.i i (s + 1) m z = 0
  rw [vB, (yO x.i 1 9999).2 hk.1, (yO i 0 2).2 s1, (yO (s + 1) 1 99).2 (by omega), (yO m 0 9999).2 hm, s3]
  rfl
 refine chkG_of (errS_zero s1 (by omega) s3 (by simp; omega)) ?_ c3 (errB_zero.2 ⟨by omega, b.2⟩)
 have hA : qZ i z none (P ++ [⟨x.i, i, s + 1, m, z⟩]) = 0 := by
  refine errA_snoc i z none P _ a1 hp ?_
  rw [Option.or_none]
  rw [earlyG] at g4
  rw [errQ] at a2
  cases hl : P.getLast? with
  | none => simp [okA]
  | some y =>
   rw [hl] at g4 a2
   simp only [decide_eq_false_iff_not] at g4
   simp only [ite_eq_left_iff] at a2
   have hys : y.s = s := by
    by_cases hy : y.s = s
    ·exact hy
    ·have := a2 hy; omega
   simp [okA, folB, hys]
   omega
 rw [qE, if_pos hA, errQ, List.getLast?_concat]
 simp
theorem syncG_right {i z s : Int} {P : List TP} {v : Int} {D : List Int} {l u v' : Int} {D' : List Int} {m : Int} (h : vA i z s P v D l u v' D' m = 0) : xH i z s P v D l u = 0 ∧ newE v D v' D' = 0 ∧ wi m 0 9999 = true := by
 rcases syncG_ways i z s P v D l u v' D' m with ⟨h1, h2⟩ | ⟨h1, h2, h3⟩ | ⟨h1, h2, h3, h4⟩ | ⟨h1, h2, h3, h4⟩
 ·rw [h2] at h; rw [h] at h1; cases h1
 ·rw [h3] at h; rw [h] at h2; cases h2
 ·omega
 ·exact ⟨h1, h2, h3⟩
end
section
open Go.RowKit
section
variable {T : List TK} {P : List TP} {V : List Int} {dv : Int} {D : List Int} {G : List GT} {W : List VW}
theorem ent_right {n z s id m : Int} (h : (entK T P V dv D n z s id m).2 = 0) : (decide (unfD dv D id = 0) && xQ D id) = false ∧ s ≠ 99 ∧ (zO T P V ⟨id, n, s + 1, m, z⟩).2 = 0 ∧ (entK T P V dv D n z s id m).1 = (zO T P V ⟨id, n, s + 1, m, z⟩).1 := by
 unfold entK at h ⊢
 split at h
 ·cases h
 ·rename_i h1
  rw [if_neg h1]
  split at h
  ·cases h
  ·rename_i h2
   rw [if_neg h2]
   split at h
   ·cases h
   ·rename_i h3
    rw [if_neg h3]
    exact ⟨by simpa using h1, h3, h, rfl⟩
theorem tap_right {id n m : Int} (h : (tapS T P V dv D G W id n m).2 = 0) : yP T P V dv D G W = 0 ∧ ∃ (q : Nat) (g : GT) (k : Nat) (x : TK), n = q ∧ q < 3 ∧ G[q]? = some g ∧ qM T id = k ∧ T[k]? = some x ∧ tAt T id = x ∧
    ((alB W g.A = true ∧ (tapS T P V dv D G W id n m).1 = 0 ∧ tapG g.i g.z g.s g.A g.v g.D g.l g.u x m = 0) ∨
     (alB W g.A = false ∧ ((tapS T P V dv D G W id n m).1 = 1 ∨ (tapS T P V dv D G W id n m).1 = 2) ∧ (decide (unfD dv D id = 0) && xQ D id) = false ∧ g.s ≠ 99 ∧ (zO T P V ⟨id, q, g.s + 1, m, g.z⟩).2 = 0 ∧ (tapS T P V dv D G W id n m).1 = (zO T P V ⟨id, q, g.s + 1, m, g.z⟩).1)) := by
  unfold tapS at h ⊢
  split at h
  · rename_i hc
    rw [if_pos hc]
    refine ⟨hc, ?_⟩
    obtain ⟨-, -, hG3, -⟩ := yM hc
    unfold tapR at h ⊢
    split at h
    · cases h
    · rename_i h1
      rw [if_neg h1]
      simp only [Bool.not_eq_false, yO] at h1
      obtain ⟨q, rfl⟩ : ∃ q : Nat, n = q := ⟨n.toNat, by omega⟩
      obtain ⟨g, hg⟩ : ∃ g, G[q]? = some g := ⟨_, List.getElem?_eq_getElem (by omega)⟩
      rw [gAt_of hg] at h ⊢
      unfold tapK at h ⊢
      split at h
      · cases h
      · rename_i h2
        rw [if_neg h2]
        obtain ⟨k, x, hk, hx⟩ := idxT_at h2
        have ht : tAt T id = x := by rw [tAt, hk, Int.toNat_natCast, List.getD_eq_getElem?_getD, hx]; rfl
        refine ⟨q, g, k, x, rfl, by omega, hg, hk, hx, ht, ?_⟩
        have ht' : T.getD (qM T id).toNat tk0 = x := ht
        rw [ht'] at h ⊢
        split at h
        · rename_i h3
          rw [if_pos h3]
          exact Or.inl ⟨h3, rfl, h⟩
        · rename_i h3
          rw [if_neg h3]
          obtain ⟨e1, e2, e3, e4⟩ := ent_right h
          have hb : alB W g.A = false := by
            cases hb : alB W g.A with
            | false => rfl
            | true => exact absurd hb h3
          refine Or.inr ⟨hb, ?_, e1, e2, e3, e4⟩
          rw [e4]
          exact enter_verd e3
  · rename_i hc
    exact absurd h hc
theorem al_nil {W : List VW} {A : List TP} (h : alB W A = false) : A = [] := by
 cases A with
 | nil => rfl
 | cons p L => simp [alB] at h
theorem ticket_of {id : Int} {k : Nat} {x : TK} (hk : qM T id = k) (hx : T[k]? = some x) : x.i = id := by
 unfold qM at hk
 cases hf : T.findIdx? (fun p => p.i == id) with
 | none => rw [hf] at hk; simp at hk
 | some n =>
  rw [hf] at hk
  obtain ⟨hlt, he, -⟩ := List.findIdx?_eq_some_iff_getElem.1 hf
  obtain rfl : n = k := by simp at hk; omega
  obtain ⟨_, rfl⟩ := List.getElem?_eq_some_iff.1 hx
  simpa using he
theorem gatePE_of {n : Nat} {g : GP} (h1 : xH g.i g.z g.s g.A g.v g.D g.l g.u = 0) (h2 : g.i = n) (h3 : ¬ dv < g.v) (h4 : P.any (twiG g.i g.s g.A) = false) : jW dv P n g = 0 := by
 rw [jW, if_pos h1, if_pos ⟨h2, h3⟩, h4]
 rfl
theorem chkPS_of {L : List GP} (h1 : xC T P V = 0) (h2 : yZ dv D = 0) (h3 : L.length = 3) (h4 : ∀ q g, L[q]? = some g → jW dv P q g = 0) (h5 : yL W = 0) : chkPS T P V dv D L W = 0 := by
 have hz : ∀ (M : List GP) (n : Nat), (∀ q g, M[q]? = some g → jW dv P (n + q) g = 0) → gatesPF dv P n M = 0 := by
  intro M
  induction M with
  | nil => intro n _; rfl
  | cons x M ih =>
   intro n h
   rw [gatesPF, if_pos (show jW dv P n x = 0 from h 0 x rfl)]
   exact ih (n + 1) (fun q g hg => by
    have := h (q + 1) g (by simpa using hg)
    rwa [show n + (q + 1) = n + 1 + q from by omega] at this)
 have hg : gatesPE dv P L = 0 := by
  rw [gatesPE, if_pos h3]
  exact hz L 0 (fun q g hq => by rw [Nat.zero_add]; exact h4 q g hq)
 rw [chkPS, if_pos h1, if_pos h2, if_pos hg]
 exact h5
theorem any_twi {i sq : Int} {A : List TP} (h : P.any (twiG i sq A) = false) {p : TP} (hp : p ∈ P) (hi : p.g = i) : ¬ sq < p.s ∧ ∀ y ∈ A, y.s ≠ p.s := by
 rw [List.any_eq_false] at h
 have := h p hp
 simp only [twiG, hi, beq_self_eq_true, Bool.true_and, Bool.or_eq_true, decide_eq_true_eq, List.any_eq_true, beq_iff_eq, not_or, not_exists, not_and] at this
 exact this
theorem twi_of {i sq : Int} {A : List TP} (h : ∀ p ∈ P, p.g = i → ¬ sq < p.s ∧ ∀ y ∈ A, y.s ≠ p.s) : P.any (twiG i sq A) = false := by
 rw [List.any_eq_false]
 intro p hp
 simp only [twiG, Bool.and_eq_true, beq_iff_eq, Bool.or_eq_true, decide_eq_true_eq, List.any_eq_true, not_and, not_or, not_exists]
 exact fun e => h p hp e
theorem tap_chk {id n m : Int} (h : (tapS T P V dv D G W id n m).2 = 0) : chkPS T (pTap W (gAt (G.map GT.p) n) P id n m) (vTap W (gAt (G.map GT.p) n) V (tapS T P V dv D G W id n m).1) dv D ((G.map GT.p).set n.toNat (gTap W (gAt (G.map GT.p) n) (tAt T id) m)) W = 0 := by
 obtain ⟨hc, q, g, k, x, rfl, hq3, hg, hk, hx, ht, hw⟩ := tap_right h
 obtain ⟨hL, hD, hG3, hGs, hW0, -⟩ := yM hc
 obtain ⟨g1, g2, g3, g4⟩ := qH (hGs q g hg)
 have hxi := ticket_of hk hx
 rw [gAt_of hg, ht, Int.toNat_natCast]
 have hset : ∀ (L : List TP) (y : GP), jW dv L q y = 0 → (∀ j e, j ≠ q → G[j]? = some e → jW dv L j e.p = 0) → ∀ j e, ((G.map GT.p).set q y)[j]? = some e → jW dv L j e = 0 := by
  intro L y h1 h2 j e hj
  by_cases hjq : j = q
  ·subst hjq
   rw [List.getElem?_set_self (by simp; omega)] at hj
   obtain rfl := Option.some.inj hj
   exact h1
  ·rw [List.getElem?_set_ne (fun e => hjq e.symm), List.getElem?_map, Option.map_eq_some_iff] at hj
   obtain ⟨e', he, rfl⟩ := hj
   exact h2 j e' hjq he
 rcases hw with ⟨w1, w2, w3⟩ | ⟨w1, w2, w3, w4, w5, w6⟩
 ·have w1' : alB W g.p.A = true := w1
  rw [pTap, if_pos w1', vTap, if_pos w1', gTap, if_pos w1']
  refine chkPS_of hL hD (by simp [hG3]) (hset P _ ?_ (fun j e hj he => ?_)) hW0
  ·refine gatePE_of (chkG_tap w3) g2 g3 (twi_of (fun p hp hpi => ?_))
   obtain ⟨a1, a2⟩ := any_twi g4 hp hpi
   refine ⟨by show ¬ g.s + 1 < p.s; omega, fun y hy => ?_⟩
   rcases List.mem_append.1 hy with hy | hy
   ·exact a2 y hy
   ·obtain rfl := List.mem_singleton.1 hy
    show g.s + 1 ≠ p.s
    omega
  ·obtain ⟨b1, b2, b3, b4⟩ := qH (hGs j e he)
   exact gatePE_of b1 b2 b3 b4
 ·have w1' : alB W g.p.A ≠ true := by
   show alB W g.A ≠ true
   rw [w1]
   decide
  have hA : g.A = [] := al_nil w1
  rw [pTap, if_neg w1', vTap, if_neg w1', gTap, if_neg w1', w6]
  have hqi : ((q : Int)) = g.i := g2.symm
  refine chkPS_of (enter_chk w5) hD (by simp [hG3]) (hset _ _ ?_ (fun j e hj he => ?_)) hW0
  ·refine gatePE_of ?_ g2 g3 (twi_of (fun p hp hpi => ?_))
   ·show xH g.i g.z (g.s + 1) g.A g.v g.D g.l g.u = 0
    obtain ⟨c1, c2, c3, c4⟩ := jQ g1
    rw [hA] at c1 c2 ⊢
    refine chkG_of ?_ rfl c3 c4
    unfold errS at c1 ⊢
    have : (wi g.i 0 2 && wi (g.s + 1) 0 99) = (wi g.i 0 2 && wi g.s 0 99) := by
     by_cases hs : (wi g.i 0 2 && wi g.s 0 99) = true
     ·rw [hs]
      simp only [Bool.and_eq_true, yO] at hs ⊢
      omega
     ·simp only [Bool.not_eq_true] at hs
      rw [if_pos hs] at c1
      omega
    rw [this]
    exact c1
   ·refine ⟨?_, fun y hy => ?_⟩
    ·show ¬ g.s + 1 < p.s
     rcases List.mem_append.1 hp with hp | hp
     ·have := (any_twi g4 hp hpi).1
      omega
     ·obtain rfl := List.mem_singleton.1 hp
      show ¬ g.s + 1 < g.s + 1
      omega
    ·have hy' : y ∈ g.A := hy
     rw [hA] at hy'
     cases hy'
  ·obtain ⟨b1, b2, b3, b4⟩ := qH (hGs j e he)
   refine gatePE_of b1 b2 b3 (twi_of (fun p hp hpi => ?_))
   rcases List.mem_append.1 hp with hp | hp
   ·exact any_twi b4 hp hpi
   ·obtain rfl := List.mem_singleton.1 hp
    have : ((q : Nat) : Int) = e.i := hpi
    omega
end
end
section
open Go.RowKit
section
variable {T : List TK} {P : List TP} {V : List Int} {dv : Int} {D : List Int} {G : List GT} {W : List VW}
theorem sync_right {n m : Int} (h : syncS T P V dv D G W n m = 0) : yP T P V dv D G W = 0 ∧ ∃ (q : Nat) (g : GT), n = q ∧ q < 3 ∧ G[q]? = some g ∧ jE W = true ∧ wi m 0 9999 = true ∧ qC T P V g.A = 0 := by
 unfold syncS at h
 split at h
 ·rename_i hc
  refine ⟨hc, ?_⟩
  obtain ⟨-, -, hG3, -⟩ := yM hc
  unfold xZ at h
  split at h
  ·cases h
  ·rename_i h1
   simp only [Bool.not_eq_false, yO] at h1
   obtain ⟨q, rfl⟩ : ∃ q : Nat, n = q := ⟨n.toNat, by omega⟩
   obtain ⟨g, hg⟩ : ∃ g, G[q]? = some g := ⟨_, List.getElem?_eq_getElem (by omega)⟩
   rw [gAt_of hg] at h
   unfold syncK at h
   split at h
   ·rename_i hn
    split at h
    ·rename_i hs
     exact ⟨q, g, rfl, by omega, hg, hn, (syncG_right hs).2.2, h⟩
    ·rename_i hs
     exact absurd h hs
   ·cases h
 ·rename_i hc
  exact absurd h hc
theorem errA_own (i z : Int) : ∀ (A : List TP) (l : Option TP), qZ i z l A = 0 → ∀ p ∈ A, p.g = i ∧ yK p = 0
 | [], _, _, p, hp => by cases hp
 | x :: A, l, h, p, hp => by
  rw [qZ] at h
  split at h
  ·rename_i h1
   split at h
   ·rename_i h2
    rcases List.mem_cons.1 hp with rfl | hp
    ·refine ⟨?_, h1⟩
     unfold okA at h2
     simp only [Bool.and_eq_true, beq_iff_eq] at h2
     exact h2.1.1
    ·exact errA_own i z A (some x) h p hp
   ·cases h
  ·rename_i h1
   exact absurd h h1
theorem errA_last (i z : Int) : ∀ (A : List TP) (l : Option TP), qZ i z l A = 0 → ∀ p ∈ A, ∀ y, A.getLast? = some y → p.s ≤ y.s
 | [], _, _, p, hp, _, _ => by cases hp
 | [x], l, h, p, hp, y, hy => by
  obtain rfl := List.mem_singleton.1 hp
  obtain rfl := Option.some.inj hy
  exact Int.le_refl _
 | x :: x' :: A, l, h, p, hp, y, hy => by
  rw [qZ] at h
  split at h
  ·split at h
   ·have h' := h
    rw [qZ] at h'
    split at h'
    ·split at h'
     ·rename_i h2
      rw [List.getLast?_cons_cons] at hy
      rcases List.mem_cons.1 hp with rfl | hp
      ·have := errA_last i z (x' :: A) (some p) h x' (List.mem_cons_self ..) y hy
       unfold okA at h2
       simp only [Bool.and_eq_true, folB, decide_eq_true_eq, beq_iff_eq] at h2
       omega
      ·exact errA_last i z (x' :: A) (some x) h p hp y hy
     ·cases h'
    ·rename_i h1
     exact absurd h' h1
   ·cases h
  ·rename_i h1
   exact absurd h h1
theorem alone_own {i z s : Int} {A : List TP} (h : qE i z s A = 0) : ∀ p ∈ A, p.g = i ∧ p.s ≤ s ∧ yK p = 0 := by
 obtain ⟨h1, h2⟩ := aloneE_right h
 intro p hp
 obtain ⟨e1, e2⟩ := errA_own i z A none h1 p hp
 refine ⟨e1, ?_, e2⟩
 obtain ⟨y, hy⟩ : ∃ y, A.getLast? = some y := by
  cases hl : A.getLast? with
  | none => rw [List.getLast?_eq_none_iff] at hl; subst hl; cases hp
  | some y => exact ⟨y, rfl⟩
 have h3 := errA_last i z A none h1 p hp y hy
 unfold errQ at h2
 simp only [hy] at h2
 by_cases hs : y.s = s
 ·omega
 ·rw [if_neg hs] at h2
  cases h2
theorem denA_chk : ∀ (M : List TP) (v : Int) (D : List Int), yZ v D = 0 → yZ (yC M v D).1 (yC M v D).2 = 0 ∧ v ≤ (yC M v D).1 ∧ D.length ≤ (yC M v D).2.length
 | [], v, D, h => ⟨h, Int.le_refl _, Nat.le_refl _⟩
 | p :: M, v, D, h => by
  rw [yC]
  split
  ·rename_i h1
   obtain ⟨e1, e2, e3⟩ := denA_chk M (v + 1) (addI D p.a) (chkD_addI h1)
   rw [addI_len] at e3
   exact ⟨e1, by omega, by omega⟩
  ·exact denA_chk M v D h
theorem denA_has : ∀ (M : List TP) (v : Int) (D : List Int) (o : Int), xQ D o = true → xQ (yC M v D).2 o = true
 | [], v, D, o, h => h
 | p :: M, v, D, o, h => by
  rw [yC]
  split
  ·exact denA_has M (v + 1) (addI D p.a) o (by rw [hasI_addI, h]; rfl)
  ·exact denA_has M v D o h
theorem sync_gate {q : Nat} {g : GT} {m : Int} (hg : jY dv P q g = 0) (hm : wi m 0 9999 = true) {v' : Int} {D' : List Int} {P' : List TP} (hD' : yZ v' D' = 0) (hP : ∀ p ∈ P', p.g = g.i → ¬ g.s < p.s) : jW v' P' q (gSync g.p v' D' m) = 0 := by
 obtain ⟨g1, g2, g3, g4⟩ := qH hg
 obtain ⟨c1, c2, c3, c4⟩ := jQ g1
 obtain ⟨s1, s2, s3, s4⟩ := errS_right c1
 have hm' := (yO _ _ _).1 hm
 refine gatePE_of (chkG_of (errS_zero s1 s2 s3 (Nat.zero_le _)) rfl hD' (errB_zero.2 ⟨by show (0 : Int) ≤ 9 ∧ (9 : Int) ≤ 9; omega, by show 0 ≤ m + 100 ∧ m + 100 ≤ 10099; omega⟩)) g2 (by show ¬ v' < v'; omega) (twi_of (fun p hp hpi => ⟨hP p hp hpi, fun y hy => by cases hy⟩))
theorem sync_chk {q : Nat} {g : GT} {m : Int} (hc : yP T P V dv D G W = 0) (hg : G[q]? = some g) (hm : wi m 0 9999 = true) (hI : qC T P V g.A = 0) :
  chkPS (xV T P V g.A) (xR T P V g.A) (xY T P V g.A) (yC (qL T P V g.A) dv D).1 (yC (qL T P V g.A) dv D).2 ((G.map GT.p).set q (gSync g.p (yC (qL T P V g.A) dv D).1 (yC (qL T P V g.A) dv D).2 m)) W = 0 := by
 obtain ⟨hL, hD, hG3, hGs, hW0, -⟩ := yM hc
 obtain ⟨d1, d2, -⟩ := denA_chk (qL T P V g.A) dv D hD
 have hpm := into_perm hI
 have hq3 := (List.getElem?_eq_some_iff.1 hg).1
 obtain ⟨g1, g2, g3, g4⟩ := qH (hGs q g hg)
 have hal := alone_own (jQ g1).2.1
 have hmem : ∀ p ∈ xR T P V g.A, p ∈ P ∨ p ∈ g.A := fun p hp => List.mem_append.1 (hpm.mem_iff.1 (List.mem_append_left _ hp))
 refine chkPS_of (into_chk hI) d1 (by simp [hG3]) (fun j e hj => ?_) hW0
 by_cases hjq : j = q
 ·subst hjq
  rw [List.getElem?_set_self (by simp; omega)] at hj
  obtain rfl := Option.some.inj hj
  refine sync_gate (hGs j g hg) hm d1 (fun p hp hpi => ?_)
  rcases hmem p hp with hp | hp
  ·exact (any_twi g4 hp hpi).1
  ·have := (hal p hp).2.1
   omega
 ·rw [List.getElem?_set_ne (fun e => hjq e.symm), List.getElem?_map, Option.map_eq_some_iff] at hj
  obtain ⟨e', he, rfl⟩ := hj
  obtain ⟨b1, b2, b3, b4⟩ := qH (hGs j e' he)
  refine gatePE_of b1 b2 (by show ¬ _ < e'.v; omega) (twi_of (fun p hp hpi => ?_))
  rcases hmem p hp with hp | hp
  ·exact any_twi b4 hp hpi
  ·have h1 := (hal p hp).1
   have h2 : p.g = e'.i := hpi
   omega
end
end
section
open Go.RowKit
theorem setR_ways (L : List VW) (who : Int) (up : Bool) : (qO L who 2 ≠ 0 ∧ setR L who up = []) ∨ (qO L who 2 = 0 ∧ setR L who up = setL L who up) := by
 rw [setR]
 by_cases h : qO L who 2 = 0 <;> simp [h]
theorem setL_len (L : List VW) (who : Int) (up : Bool) : (setL L who up).length = L.length := by simp [setL]
theorem set_any (o : Option Addr) (cap : Nat) (L : List VW) (who : Int) (up : Bool) (w : World) (hL : zZ w o L) (hlen : L.length ≤ 9223372036854775807) :
  Calls Tryz.prog 25 #[.slice o L.length cap, .int .i64 who, .bool up] w fun e w' => (∃ o' n c', e = .returned (.tuple #[.slice o' n c', .int .i64 (qO L who 2)]) ∧ qK w' (.slice o' n c') (setR L who up) ∧ zK w.heap.size (.slice o' n c')) ∧ Below w.heap.size w w' := by
 have HL := zA hL
 have HU := zA (fun W (h : zZ W o L) => unfW_any who 3 o cap L W h hlen (by omega))
 simp only [show (3 : Int) - 1 = 2 from rfl] at HU
 clear hL
 rcases setR_ways L who up with ⟨h0, hr⟩ | ⟨h0, hr⟩
 ·have h0' : (qO L who 2 != 0) = true := by simpa using h0
  rw [hr]
  clear hr h0
  generalize qO L who 2 = E at *
  go_enter Tryz.func25, Tryz.ntmps25
  go_wp2_with fail
  refine (HU.out _ HL.out).mono ?_
  rintro e w1 ⟨rfl, hb⟩
  have HB := zA hb
  clear hb
  go_wp2_with fail
  go_ret2
  exact ⟨⟨_, _, _, rfl, vwsV_nil _, fresh_nil _⟩, HB.out⟩
 ·obtain ⟨hc, hw0, hw1⟩ := unfW_right h0
  have hl3 := right_len hc
  obtain ⟨k, rfl⟩ : ∃ k : Nat, who = (k : Int) := ⟨who.toNat, by omega⟩
  obtain ⟨p, hp⟩ : ∃ p, L[k]? = some p := ⟨L[k]'(by omega), by simp⟩
  obtain ⟨A, rfl, -⟩ := HL.out k p hp
  have HK := zA (fun W (h : zZ W (some A) L) => cloneO_any L A cap W h (by omega) (by omega))
  have hkI : (k : Int) < (L.length : Int) := by omega
  have hkN : k < L.length := by omega
  have HP := zA hp
  rw [h0] at HU ⊢
  have hR : setR L k up = L.modify k fun v => ⟨v.e, v.l, up⟩ := hr
  generalize setR L k up = R at *
  have HR := zA hR
  clear hc hl3 hp hr hR h0 hw0 hw1
  go_enter Tryz.func25, Tryz.ntmps25
  go_wp2_with fail
  refine (HU.out _ HL.out).mono ?_
  rintro e w1 ⟨rfl, hb⟩
  have HL1 := zA (HL.out.below hb)
  have HB1 := zA hb
  clear hb
  go_wp2_with fail
  refine (HK.out _ HL1.out).mono ?_
  rintro e w2 ⟨⟨g, c, rfl, hg, hown⟩, hb2⟩
  have HO := zA hown
  have HB2 := zA (HB1.out.trans (hb2.mono HB1.out.size))
  have hg' : w.heap.size ≤ g := Nat.le_trans HB1.out.size hg
  clear hown hb2 hg
  obtain ⟨pe, pl, pu⟩ := p
  have c2 : w2.cell? ⟨g, k * 3 + 2, none⟩ = some (.bool pu) := by rw [HO.out.cellAt _ (by omega)]; exact jP L k _ HP.out 2 (by decide)
  have z2 := HO.out.frozenAt (k * 3 + 2)
  have HS := zA (HO.out.stored (k * 3 + 2) (.bool up)).1
  rw [cellsW_up L k up (by omega)] at HS
  have HBs := zA (HB2.out.setCell (p := ⟨g, k * 3 + 2, none⟩) hg' (.bool up))
  have HR' := zA (show L.length = R.length by rw [HR.out]; exact (setL_len L k up).symm)
  have HS' := zA (show qK _ _ R from HR.out ▸ vwsV_own HS.out)
  go_wp2_with fail
  go_ret2
  exact ⟨⟨_, _, _, rfl, HS'.out, fun k hk => by cases hk; exact hg'⟩, HBs.out⟩
theorem sameViews_same (L : List VW) (o o' : Option Addr) (c c' : Nat) (w : World) (hL : zZ w o L) (hM : zZ w o' L) (hlen : L.length ≤ 100) :
  Calls Tryz.prog 57 #[.slice o L.length c, .slice o' L.length c'] w fun e w' => e = .returned (.bool true) ∧ Below w.heap.size w w' := by
 have HL := zA hL
 have HM := zA hM
 clear hL hM
 go_enter Tryz.func57, Tryz.ntmps57
 go_wp2_with fail
 go_loopw [5] (fun j wr => ∃ (q : Nat), q ≤ L.length ∧ j = .int .i64 q ∧ Below w.heap.size w wr) (fun j _ => L.length - (intOf j).toNat)
 case atStart => exact ⟨0, Nat.zero_le _, rfl, Below.refl _ _⟩
 case round =>
  obtain ⟨q, hq, rfl, hbr⟩ := hrel
  by_cases hgo : q < L.length
  ·obtain ⟨p, hp⟩ : ∃ p, L[q]? = some p := ⟨L[q], by simp [hgo]⟩
   obtain ⟨A, rfl, c0, c1, c2⟩ := (HL.out.below hbr) q p hp
   obtain ⟨A', rfl, d0, d1, d2⟩ := (HM.out.below hbr) q p hp
   clear hp
   go_wp2_with fail
   go_region
   go_wp2_with fail
   exact ⟨⟨q + 1, by omega, by simp, hbr.drew⟩, by simp [intOf]; omega⟩
  ·go_wp2_with fail
   go_ret
   exact ⟨rfl, hbr⟩
theorem three_cases {who : Int} (h0 : 0 ≤ who) (h1 : who ≤ 2) : who = 0 ∨ who = 1 ∨ who = 2 := by omega
theorem setL_right {L : List VW} {a : Int} {up : Bool} (h : qO L a 2 = 0) : yL (setL L a up) = 0 := by
 obtain ⟨hc, h0, h1⟩ := unfW_right h
 obtain ⟨x, y, z, rfl, hx, hy, hz, hs⟩ := chkVs_right hc
 rcases three_cases h0 h1 with rfl | rfl | rfl
 ·exact chkVs_of (a := ⟨x.e, x.l, up⟩) hx hy hz hs
 ·exact chkVs_of (b := ⟨y.e, y.l, up⟩) hx hy hz hs
 ·exact chkVs_of (c := ⟨z.e, z.l, up⟩) hx hy hz hs
theorem topW_max (L : List VW) : ∀ p ∈ L, p.e ≤ (xG L).e := by
 cases L with
 | nil => intro p hp; simp at hp
 | cons x r =>
  show ∀ p ∈ x :: r, p.e ≤ (List.foldl _ x r).e
  have key : ∀ (r : List VW) (x : VW), x.e ≤ (List.foldl (fun m y : VW => if m.e < y.e then y else m) x r).e ∧ ∀ p ∈ r, p.e ≤ (List.foldl (fun m y : VW => if m.e < y.e then y else m) x r).e := by
   intro r
   induction r with
   | nil => intro x; simp
   | cons y r ih =>
    intro x
    rw [List.foldl_cons]
    split
    ·rename_i h
     refine ⟨by have := (ih y).1; omega, fun p hp => ?_⟩
     rcases List.mem_cons.1 hp with rfl | hp
     ·exact (ih p).1
     ·exact (ih y).2 p hp
    ·rename_i h
     refine ⟨(ih x).1, fun p hp => ?_⟩
     rcases List.mem_cons.1 hp with rfl | hp
     ·have := (ih x).1; omega
     ·exact (ih x).2 p hp
  intro p hp
  rcases List.mem_cons.1 hp with rfl | hp
  ·exact (key r p).1
  ·exact (key r x).2 p hp
def upE (e : Int) (v : VW) : Bool := v.u && v.e == e
theorem chkVs_intro {L : List VW} (hl : L.length = 3) (h : ∀ p ∈ L, jZ p = 0) (hs : ∀ v ∈ L, ∀ w ∈ L, v.e = w.e → v.l = w.l) : yL L = 0 := by
 match L, hl with
 | [a, b, c], _ =>
 refine chkVs_of (h a (by simp)) (h b (by simp)) (h c (by simp)) ?_
 rw [splW_three]
 exact ⟨hs a (by simp) b (by simp), hs a (by simp) c (by simp), hs b (by simp) c (by simp)⟩
theorem chkVs_one {L : List VW} (h : yL L = 0) : (∀ p ∈ L, jZ p = 0) ∧ ∀ v ∈ L, ∀ w ∈ L, v.e = w.e → v.l = w.l := by
 obtain ⟨a, b, c, rfl, ha, hb, hc, hs⟩ := chkVs_right h
 rw [splW_three] at hs
 obtain ⟨h1, h2, h3⟩ := hs
 refine ⟨fun p hp => ?_, fun v hv w hw => ?_⟩
 ·simp only [List.mem_cons, List.not_mem_nil, or_false] at hp
  rcases hp with rfl | rfl | rfl <;> assumption
 ·simp only [List.mem_cons, List.not_mem_nil, or_false] at hv hw
  rcases hv with rfl | rfl | rfl <;> rcases hw with rfl | rfl | rfl <;> intro he <;> first | rfl | exact h1 he | exact h2 he | exact h3 he | exact (h1 he.symm).symm | exact (h2 he.symm).symm | exact (h3 he.symm).symm
theorem now_of {M : List VW} {T who : Int} (h : yL M = 0) (h1 : (xG M).e = T) (h2 : (xG M).l = who) (hT : T ≠ 0) :
  jE M = (upAt M who && decide (2 ≤ (M.countP (upE T) : Int))) ∧ nowI M = if jE M = true then who else 0 := by
 refine ⟨?_, by rw [nowI, h2]⟩
 have e1 : lastG (xG M) = upE T := by funext v; rw [lastG, upE, h1]
 have e2 : (T != 0) = true := by simpa using hT
 rw [jE, leadsW, h1, h2, e1, e2, jS, h]
 simp only [decide_true, Bool.true_and]
 congr 1
 rw [decide_eq_decide]
 omega
theorem win_leads {L : List VW} {who : Int} (hu : qO L who 1 = 0) (hup : upAt L who = true) (hm : jS upG L = true) (h99 : (xG L).e ≠ 99) :
  yL (yW L ((xG L).e + 1) who) = 0 ∧ (xG (yW L ((xG L).e + 1) who)).e = (xG L).e + 1 ∧ (xG (yW L ((xG L).e + 1) who)).l = who ∧ (yW L ((xG L).e + 1) who)[who.toNat]? = some ⟨(xG L).e + 1, who, true⟩ ∧
   0 < (xG L).e + 1 ∧ jE (yW L ((xG L).e + 1) who) = true ∧ nowI (yW L ((xG L).e + 1) who) = who := by
 obtain ⟨hc, h0, h1⟩ := unfW_right hu
 have hl := right_len hc
 obtain ⟨hall, hspl⟩ := chkVs_one hc
 have hmax := topW_max L
 have hne : L ≠ [] := by intro e; rw [e] at hl; simp at hl
 have htop := jT hc _ (topW_mem L hne)
 generalize hT : (xG L).e = t at *
 have hat : (yW L (t + 1) who)[who.toNat]? = some ⟨t + 1, who, true⟩ := by
  rw [yW, List.getElem?_map]
  rw [upAt] at hup
  cases hx : L[who.toNat]? with
  | none => rw [hx] at hup; simp at hup
  | some x =>
   rw [hx] at hup
   simp at hup
   simp [hup]
 have hmem : ∀ v ∈ yW L (t + 1) who, v = ⟨t + 1, who, true⟩ ∨ (v ∈ L ∧ v.u = false) := by
  intro v hv
  rw [yW, List.mem_map] at hv
  obtain ⟨x, hx, rfl⟩ := hv
  cases hxu : x.u
  ·right; simp [hxu]; exact hx
  ·left; simp
 have hA : yL (yW L (t + 1) who) = 0 := by
  refine chkVs_intro (by rw [promW_len]; exact hl) (fun p hp => ?_) (fun v hv w hw he => ?_)
  ·rcases hmem p hp with rfl | ⟨h, -⟩
   ·rw [chkW_zero]; simp only []; omega
   ·exact hall p h
  ·rcases hmem v hv with rfl | ⟨h2, -⟩ <;> rcases hmem w hw with rfl | ⟨h3, -⟩
   ·rfl
   ·have := hmax w h3; simp only [] at he; omega
   ·have := hmax v h2; simp only [] at he; omega
   ·exact hspl v h2 w h3 he
 have hlA := right_len hA
 have hneA : yW L (t + 1) who ≠ [] := by intro e; rw [e] at hlA; simp at hlA
 have hge := topW_max (yW L (t + 1) who) _ (List.mem_of_getElem? hat)
 have htopA : xG (yW L (t + 1) who) = ⟨t + 1, who, true⟩ := by
  rcases hmem _ (topW_mem _ hneA) with h | ⟨h, -⟩
  ·exact h
  ·have := hmax _ h; simp only [] at hge; omega
 have e1 : (xG (yW L (t + 1) who)).e = t + 1 := by rw [htopA]
 have e2 : (xG (yW L (t + 1) who)).l = who := by rw [htopA]
 obtain ⟨n1, n2⟩ := now_of hA e1 e2 (by omega)
 have hupA : upAt (yW L (t + 1) who) who = true := by simp [upAt, hat]
 have hcnt : (yW L (t + 1) who).countP (upE (t + 1)) = L.countP upG := by
  rw [yW, List.countP_map]
  congr 1
  funext v
  cases hv : v.u <;> simp [upE, upG, hv]
 have hb : jE (yW L (t + 1) who) = true := by
  rw [n1, hupA, hcnt]
  rw [jS, decide_eq_true_eq] at hm
  simp only [Bool.true_and, decide_eq_true_eq]
  omega
 exact ⟨hA, e1, e2, hat, by omega, hb, by rw [n2, hb]; rfl⟩
end
end Go.Proofs.YtgidebfgcbkkkaaGreat
