/-
  'twice' (package merge).
-/
import Derived.Test.YtefdnddaggpgkaaF3
import Derived.Test.YtefdnddaggpgkaaH1
import Derived.Deep.CutRange
import Derived.Deep.CutBlock
import Derived.BigQuiet
import Derived.WalkSmall
namespace Go.Proofs.Ytefdnddaggpgkaa
open Go.RowKit

/-- one of the taps of a list has a number that is there already -/
def dupFrom : List TP → List TP → Bool
  | _, [] => false
  | A, p :: L => twiceT A p || dupFrom (A ++ [p]) L
def dupB (L : List TP) : Bool := dupFrom [] L

/-- how many have that number -/
def cntN (L : List TP) (g s : Nat) : Nat := L.countP fun p => p.g == (g : Int) && p.s == (s : Int)

theorem cntN_snoc (L : List TP) (p : TP) (g s : Nat) : cntN (L ++ [p]) g s = cntN L g s + if (p.g == (g : Int) && p.s == (s : Int)) = true then 1 else 0 := by
  rw [cntN, List.countP_append]
  simp [List.countP_cons, cntN]

theorem cntN_le (L : List TP) (g s : Nat) : cntN L g s ≤ L.length := List.countP_le_length

theorem twice_cnt (L : List TP) (p : TP) (g s : Nat) (hg : p.g = (g : Int)) (hs : p.s = (s : Int)) : twiceT L p = decide (0 < cntN L g s) := by
  rw [twiceT, cntN, hg, hs]
  cases h : L.any fun x => x.g == (g : Int) && x.s == (s : Int)
  · have h2 : L.countP (fun p => p.g == (g : Int) && p.s == (s : Int)) = 0 := by
      rw [List.countP_eq_zero]
      intro x hx
      have := List.any_eq_false.1 h x hx
      simpa using this
    rw [h2]
    rfl
  · have h2 : 0 < L.countP (fun p => p.g == (g : Int) && p.s == (s : Int)) := by
      rw [List.countP_pos_iff]
      obtain ⟨x, hx, hp⟩ := List.any_eq_true.1 h
      exact ⟨x, hx, hp⟩
    simp [h2]

theorem cell_set_neF {w : World} {p q : Addr} {u v : Value} (hne : p.block ≠ q.block) (h : w.cell? q = some v) : (w.setCell p u).cell? q = some v := by
  rw [World.cell?_setCell_other]
  · exact h
  · intro e
    exact hne (by rw [e])

theorem dropFrom_cons (A : List TP) (p : TP) (L : List TP) : dupFrom A (p :: L) = (twiceT A p || dupFrom (A ++ [p]) L) := rfl

theorem zeroC : Try.zeroCells96 = Array.replicate 300 (.int .i64 0) := by kernel_rfl

/-- the table of how many there are -/
def Tab (w : World) (B : Nat) (M : List TP) : Prop := ∃ cs : Array Value, w.heap[B]? = some (.cells cs 96) ∧ cs.size = 300 ∧ ∀ g s : Nat, g < 3 → s < 100 → cs[g * 100 + s]? = some (.int .i64 (cntN M g s))

theorem Tab.below {w w' : World} {B : Nat} {M : List TP} (h : Tab w B M) (hb : Below w.heap.size w w') : Tab w' B M := by
  obtain ⟨cs, h1, h2⟩ := h
  refine ⟨cs, ?_, h2⟩
  have hlt : B < w.heap.size := (Array.getElem?_eq_some_iff.1 h1).1
  rw [hb.block _ hlt]
  exact h1

theorem Tab.cell {w : World} {B : Nat} {M : List TP} (h : Tab w B M) {g s : Nat} (hg : g < 3) (hs : s < 100) : w.cell? ⟨B, g * 100 + s, none⟩ = some (.int .i64 (cntN M g s)) ∧ w.frozen? ⟨B, g * 100 + s, none⟩ = false := by
  obtain ⟨cs, h1, h2, h3⟩ := h
  exact ⟨by rw [cell_of_row _ _ _ _ _ _ h1]; exact h3 g s hg hs, frozen_of_row _ _ _ _ _ h1⟩

theorem Tab.more {w : World} {B : Nat} {M : List TP} (h : Tab w B M) {g s : Nat} {p : TP} (hg : g < 3) (hs : s < 100) (eg : p.g = (g : Int)) (es : p.s = (s : Int)) :
    Tab (w.setCell ⟨B, g * 100 + s, none⟩ (.int .i64 ((cntN M g s : Int) + 1))) B (M ++ [p]) := by
  obtain ⟨cs, h1, h2, h3⟩ := h
  refine ⟨_, heap_setCell_same w B _ cs _ _ h1, by simpa using h2, fun g' s' hg' hs' => ?_⟩
  rw [Array.getElem?_setIfInBounds, cntN_snoc, eg, es]
  by_cases he : g = g' ∧ s = s'
  · obtain ⟨rfl, rfl⟩ := he
    rw [if_pos rfl, if_pos (by omega)]
    simp
  · rw [if_neg (by omega), h3 g' s' hg' hs', if_neg (by simp; omega)]
    simp

set_option maxHeartbeats 3200000 in
theorem twice_any (o : Option Addr) (cap : Nat) (L : List TP) (w : World) (hL : TapsAt w o L) (hlen : L.length ≤ 72) (hr : ∀ p ∈ L, (0 ≤ p.g ∧ p.g ≤ 2) ∧ (1 ≤ p.s ∧ p.s ≤ 99)) :
    Calls Try.prog 41 #[.slice o L.length cap] w fun x w' => x = .returned (.bool (dupB L)) ∧ Below w.heap.size w w' := by
  have HL := hide hL
  have HR0 := hide hr
  obtain ⟨R, hR⟩ : ∃ R, R = dupB L := ⟨_, rfl⟩
  rw [← hR]
  have HR := hide hR
  have HB0 := hide ((Below.refl w.heap.size w).alloc (Nat.le_refl _) (.cells Try.zeroCells96 96))
  have HT0 : Hid (Tab (w.alloc (.cells Try.zeroCells96 96)) w.heap.size []) := by
    refine ⟨_, heap_alloc_new w _, by rw [zeroC]; simp, fun g s hg hs => ?_⟩
    rw [zeroC, Array.getElem?_replicate, if_pos (by omega)]
    rfl
  clear hL hr hR
  go_enter Try.func41, Try.ntmps41
  go_wp2_with fail
  generalize w.alloc _ = w0 at *
  go_loopw [8] (fun j wr => ∃ (q : Nat), q ≤ L.length ∧ j = .int .i64 q ∧ Hid (dupB L = dupFrom (L.take q) (L.drop q)) ∧ Hid (Tab wr w.heap.size (L.take q)) ∧ Hid (Below w.heap.size w wr)) (fun j _ => L.length - (intOf j).toNat)
  case atStart => exact ⟨0, Nat.zero_le _, rfl, by show _ = _; simp [dupB], HT0, HB0⟩
  case round =>
    obtain ⟨q, hq, rfl, hD, hT, hB⟩ := hrel
    by_cases hgo : q < L.length
    · obtain ⟨p, hp⟩ : ∃ p, L[q]? = some p := ⟨L[q], by simp [hgo]⟩
      obtain ⟨A, rfl, c0, c1, c2, c3, c4⟩ := (HL.out.below hB.out) q p hp
      have hrp := HR0.out p (List.mem_of_getElem? hp)
      have hD' := hD.out
      rw [dropP hp, dropFrom_cons, show L.take q ++ [p] = L.take (q + 1) by rw [List.take_add_one, hp]; rfl] at hD'
      have hM : L.take (q + 1) = L.take q ++ [p] := by rw [List.take_add_one, hp]; rfl
      have hcl : cntN (L.take q) p.g.toNat p.s.toNat ≤ 72 := Nat.le_trans (cntN_le _ _ _) (by simp; omega)
      obtain ⟨pa, pg, ps, pm, pz⟩ := p
      simp only [] at hrp c0 c1 c2 c3 c4
      obtain ⟨g, rfl⟩ : ∃ g : Nat, pg = (g : Int) := ⟨pg.toNat, by omega⟩
      obtain ⟨s, rfl⟩ : ∃ s : Nat, ps = (s : Int) := ⟨ps.toNat, by omega⟩
      simp only [Int.toNat_natCast] at hcl
      rw [twice_cnt (L.take q) ⟨pa, g, s, pm, pz⟩ g s rfl rfl] at hD'
      have hwlt : Hid (w.heap.size < wr.heap.size) := by
        obtain ⟨cs, h1, -⟩ := hT.out
        exact (Array.getElem?_eq_some_iff.1 h1).1
      have hg3 : g < 3 := by omega
      have hs100 : s < 100 := by omega
      have HD := hide hD'
      have HM := hide hM
      clear hD hD' hM hp
      go_upto_region 5 with fail
      have HG := hide ((Blks.nil wr).more (.cells #[.int .i64 pa, .int .i64 (g : Int), .int .i64 (s : Int), .int .i64 pm, .int .i64 pz] 28) (by simp))
      have HTa := hide (hT.out.below HG.out.2.2)
      have HBa := hide (hB.out.trans (HG.out.2.2.mono hB.out.size))
      clear hT hB c0 c1 c2 c3 c4
      generalize wr.alloc _ = wa at *
      refine wp_region_reads (fun w' => w'.cell? ⟨wr.heap.size, 1, none⟩ = some (.int .i64 (g : Int)) ∧ w'.cell? ⟨wr.heap.size, 2, none⟩ = some (.int .i64 (s : Int))) [0, 1, 2, 3, 4, 5, 8] 4 (by rfl) (by kernel_rfl) (by kernel_rfl) (by kernel_rfl) (fun c d v a w h => by cases d <;> exact h) ?_ ?_
      · exact ⟨(HG.out.on (Below.refl _ _).drew).cell 0 1 _ _ _ _ rfl rfl rfl, (HG.out.on (Below.refl _ _).drew).cell 0 2 _ _ _ _ rfl rfl rfl⟩
      refine wpPureH_step (.pointer (some ⟨wr.heap.size, 1, none⟩)) rfl rfl (fun w' _ => ?_) ?_
      · go_simp
      refine wpPureH_step (.int .i64 g) rfl rfl (fun w' hS => ?_) ?_
      · obtain ⟨k1, k2⟩ := hS
        go_simp
      refine wpPureH_step (.pointer (some ⟨wr.heap.size, 2, none⟩)) rfl rfl (fun w' _ => ?_) ?_
      · go_simp
      refine wpPureH_step (.int .i64 s) rfl rfl (fun w' hS => ?_) ?_
      · obtain ⟨k1, k2⟩ := hS
        go_simp
      refine wpPureH_step (.pointer (some ⟨w.heap.size, g * 100, none⟩)) rfl rfl (fun w' _ => ?_) ?_
      · go_simp
        intro h; omega
      refine wpPureH_step (.pointer (some ⟨w.heap.size, g * 100 + s, none⟩)) rfl rfl (fun w' _ => ?_) ?_
      · go_simp
        intro h; omega
      refine wpPureH_step (.pointer (some ⟨w.heap.size, g * 100, none⟩)) rfl rfl (fun w' _ => ?_) ?_
      · go_simp
        intro h; omega
      refine wpPureH_nil ?_
      have HGd := hide (HG.out.on (Below.refl _ _).drew)
      have HTd := hide (HTa.out.below (Below.refl _ _).drew)
      have HBd := hide (HBa.out.drew)
      clear HG HTa HBa
      generalize World.drew _ = wb at *
      obtain ⟨k0, f0⟩ := HTd.out.cell hg3 hs100
      have hlt := World.block_lt_of_cell? wb _ k0
      have hsz := HGd.out.2.1
      simp only [List.length_append, List.length_cons, List.length_nil] at hsz
      have hwl : w.heap.size < wr.heap.size := by
        have h1 := hwlt.out
        exact h1
      have hwr : IntKind.i64.wrap ((cntN (L.take q) g s : Int) + 1) = (cntN (L.take q) g s : Int) + 1 := by rw [IntKind.wrap_i64]; omega
      have HX := hide (And.intro (HGd.out.cell 0 1 wr.heap.size _ _ _ rfl rfl rfl) (HGd.out.cell 0 2 wr.heap.size _ _ _ rfl rfl rfl))
      have hgI : (g : Int) < 3 := by omega
      have hsI : (s : Int) < 100 := by omega
      clear HGd
      refine one_readyH (i := 6) (by kernel_rfl) rfl rfl (fun K hK => ?_)
      go_simp
      refine hK _ _ HX.out ?_
      clear hK K
      refine one_readyH (i := 7) (by kernel_rfl) rfl rfl (fun K hK => ?_)
      go_simp
      refine hK _ _ HX.out ?_
      clear hK K
      refine one_readyH (i := 9) (by kernel_rfl) rfl rfl (fun K hK => ?_)
      go_simp
      refine hK _ _ HX.out ?_
      clear hK K
      refine one_readyH (i := 10) (by kernel_rfl) rfl rfl (fun K hK => ?_)
      go_simp
      have HTe := hide (HTd.out.more (p := ⟨pa, g, s, pm, pz⟩) hg3 hs100 rfl rfl)
      rw [← HM.out] at HTe
      have HBe := hide (HBd.out.setCell (p := ⟨w.heap.size, g * 100 + s, none⟩) (Nat.le_refl _) (.int .i64 ((cntN (L.take q) g s : Int) + 1)))
      have HXe := hide (And.intro (cell_set_neF (p := ⟨w.heap.size, g * 100 + s, none⟩) (q := ⟨wr.heap.size, 1, none⟩) (u := .int .i64 ((cntN (L.take q) g s : Int) + 1)) (by simp; omega) HX.out.1) (cell_set_neF (p := ⟨w.heap.size, g * 100 + s, none⟩) (q := ⟨wr.heap.size, 2, none⟩) (u := .int .i64 ((cntN (L.take q) g s : Int) + 1)) (by simp; omega) HX.out.2))
      refine hK _ _ HXe.out ?_
      clear hK K HX HTd HBd k0 f0 hlt hsz
      generalize wb.setCell _ _ = wc at *
      refine wpAnyH_done (by kernel_rfl) ?_ _
      obtain ⟨x1, x2⟩ := HXe.out
      have k0 := (HTe.out.cell hg3 hs100).1
      rw [HM.out, cntN_snoc, if_pos (by simp)] at k0
      generalize hc : cntN (L.take q) g s = c at *
      clear hc
      have k0' : wc.cell? ⟨w.heap.size, g * 100 + s, none⟩ = some (.int .i64 ((c : Int) + 1)) := by rw [k0]; simp
      clear k0
      by_cases hc0 : 0 < c
      · have HR' := hide (show R = true by rw [HR.out, HD.out]; simp [hc0])
        have hc1 : (1 : Int) < (c : Int) + 1 := by omega
        clear HD
        go_wp2_with fail
        go_quiet (fail)
        go_wp2_with fail
        go_ret
        exact ⟨by rw [HR'.out]; rfl, below_drewN HBe.out _⟩
      · have HD' := hide (show dupB L = dupFrom (L.take (q + 1)) (L.drop (q + 1)) by rw [HD.out]; simp [hc0])
        have hc1 : ¬ (1 : Int) < (c : Int) + 1 := by omega
        clear HD
        go_wp2_with fail
        go_quiet (fail)
        go_wp2_with fail
        exact ⟨⟨q + 1, by omega, by simp, HD', HTe.out.below (below_drewN (Below.refl _ _) _), below_drewN HBe.out _⟩, by simp [intOf]; omega⟩
    · have hD' := hD.out
      rw [List.drop_of_length_le (by omega)] at hD'
      have HR' := hide (show R = false by rw [HR.out, hD']; rfl)
      clear hD'
      go_wp2_with fail
      go_ret
      exact ⟨by rw [HR'.out]; rfl, hB.out⟩
end Go.Proofs.Ytefdnddaggpgkaa
