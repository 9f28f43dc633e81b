/-
  'Order' (package merge).
-/
import Derived.Test.YtefdnddaggpgkaaF3
import Derived.Test.YtefdnddaggpgkaaH1
import Derived.Deep.CutRange
import Derived.Deep.CutBlock
import Derived.BigQuiet
import Derived.WalkSmall
import Derived.Test.YtefdnddaggpgkaaF2
import Derived.Test.YtefdnddaggpgkaaF5
import Derived.Test.YtefdnddaggpgkaaK2
import Derived.Laws.OwnMore
import Derived.Shelf.SlSortCmp.NoneTotal
namespace Go.Proofs.Ytefdnddaggpgkaa
open Go.RowKit

/-- one of the taps of a list has a number that is there already -/
def dupFrom : List TP → List TP → Bool
  | _, [] => false
  | A, p :: L => twiceT A p || dupFrom (A ++ [p]) L
def dupB (L : List TP) : Bool := dupFrom [] L

/-- how many have that number -/
def cntN (L : List TP) (g s : Nat) : Nat := L.countP fun p => p.g == (g : Int) && p.s == (s : Int)

theorem cntN_snoc (L : List TP) (p : TP) (g s : Nat) : cntN (L ++ [p]) g s = cntN L g s + if (p.g == (g : Int) && p.s == (s : Int)) = true then 1 else 0 := by
  rw [cntN, List.countP_append]
  simp [List.countP_cons, cntN]

theorem cntN_le (L : List TP) (g s : Nat) : cntN L g s ≤ L.length := List.countP_le_length

theorem twice_cnt (L : List TP) (p : TP) (g s : Nat) (hg : p.g = (g : Int)) (hs : p.s = (s : Int)) : twiceT L p = decide (0 < cntN L g s) := by
  rw [twiceT, cntN, hg, hs]
  cases h : L.any fun x => x.g == (g : Int) && x.s == (s : Int)
  · have h2 : L.countP (fun p => p.g == (g : Int) && p.s == (s : Int)) = 0 := by
      rw [List.countP_eq_zero]
      intro x hx
      have := List.any_eq_false.1 h x hx
      simpa using this
    rw [h2]
    rfl
  · have h2 : 0 < L.countP (fun p => p.g == (g : Int) && p.s == (s : Int)) := by
      rw [List.countP_pos_iff]
      obtain ⟨x, hx, hp⟩ := List.any_eq_true.1 h
      exact ⟨x, hx, hp⟩
    simp [h2]

theorem cell_set_neF {w : World} {p q : Addr} {u v : Value} (hne : p.block ≠ q.block) (h : w.cell? q = some v) : (w.setCell p u).cell? q = some v := by
  rw [World.cell?_setCell_other]
  · exact h
  · intro e
    exact hne (by rw [e])

theorem dropFrom_cons (A : List TP) (p : TP) (L : List TP) : dupFrom A (p :: L) = (twiceT A p || dupFrom (A ++ [p]) L) := rfl

theorem zeroC : Try.zeroCells96 = Array.replicate 300 (.int .i64 0) := by kernel_rfl

/-- the table of how many there are -/
def Tab (w : World) (B : Nat) (M : List TP) : Prop := ∃ cs : Array Value, w.heap[B]? = some (.cells cs 96) ∧ cs.size = 300 ∧ ∀ g s : Nat, g < 3 → s < 100 → cs[g * 100 + s]? = some (.int .i64 (cntN M g s))

theorem Tab.below {w w' : World} {B : Nat} {M : List TP} (h : Tab w B M) (hb : Below w.heap.size w w') : Tab w' B M := by
  obtain ⟨cs, h1, h2⟩ := h
  refine ⟨cs, ?_, h2⟩
  have hlt : B < w.heap.size := (Array.getElem?_eq_some_iff.1 h1).1
  rw [hb.block _ hlt]
  exact h1

theorem Tab.cell {w : World} {B : Nat} {M : List TP} (h : Tab w B M) {g s : Nat} (hg : g < 3) (hs : s < 100) : w.cell? ⟨B, g * 100 + s, none⟩ = some (.int .i64 (cntN M g s)) ∧ w.frozen? ⟨B, g * 100 + s, none⟩ = false := by
  obtain ⟨cs, h1, h2, h3⟩ := h
  exact ⟨by rw [cell_of_row _ _ _ _ _ _ h1]; exact h3 g s hg hs, frozen_of_row _ _ _ _ _ h1⟩

theorem Tab.more {w : World} {B : Nat} {M : List TP} (h : Tab w B M) {g s : Nat} {p : TP} (hg : g < 3) (hs : s < 100) (eg : p.g = (g : Int)) (es : p.s = (s : Int)) :
    Tab (w.setCell ⟨B, g * 100 + s, none⟩ (.int .i64 ((cntN M g s : Int) + 1))) B (M ++ [p]) := by
  obtain ⟨cs, h1, h2, h3⟩ := h
  refine ⟨_, heap_setCell_same w B _ cs _ _ h1, by simpa using h2, fun g' s' hg' hs' => ?_⟩
  rw [Array.getElem?_setIfInBounds, cntN_snoc, eg, es]
  by_cases he : g = g' ∧ s = s'
  · obtain ⟨rfl, rfl⟩ := he
    rw [if_pos rfl, if_pos (by omega)]
    simp
  · rw [if_neg (by omega), h3 g' s' hg' hs', if_neg (by simp; omega)]
    simp

set_option maxHeartbeats 3200000 in
theorem twice_any (o : Option Addr) (cap : Nat) (L : List TP) (w : World) (hL : TapsAt w o L) (hlen : L.length ≤ 72) (hr : ∀ p ∈ L, (0 ≤ p.g ∧ p.g ≤ 2) ∧ (1 ≤ p.s ∧ p.s ≤ 99)) :
    Calls Try.prog 41 #[.slice o L.length cap] w fun x w' => x = .returned (.bool (dupB L)) ∧ Below w.heap.size w w' := by
  have HL := hide hL
  have HR0 := hide hr
  obtain ⟨R, hR⟩ : ∃ R, R = dupB L := ⟨_, rfl⟩
  rw [← hR]
  have HR := hide hR
  have HB0 := hide ((Below.refl w.heap.size w).alloc (Nat.le_refl _) (.cells Try.zeroCells96 96))
  have HT0 : Hid (Tab (w.alloc (.cells Try.zeroCells96 96)) w.heap.size []) := by
    refine ⟨_, heap_alloc_new w _, by rw [zeroC]; simp, fun g s hg hs => ?_⟩
    rw [zeroC, Array.getElem?_replicate, if_pos (by omega)]
    rfl
  clear hL hr hR
  go_enter Try.func41, Try.ntmps41
  go_wp2_with fail
  generalize w.alloc _ = w0 at *
  go_loopw [8] (fun j wr => ∃ (q : Nat), q ≤ L.length ∧ j = .int .i64 q ∧ Hid (dupB L = dupFrom (L.take q) (L.drop q)) ∧ Hid (Tab wr w.heap.size (L.take q)) ∧ Hid (Below w.heap.size w wr)) (fun j _ => L.length - (intOf j).toNat)
  case atStart => exact ⟨0, Nat.zero_le _, rfl, by show _ = _; simp [dupB], HT0, HB0⟩
  case round =>
    obtain ⟨q, hq, rfl, hD, hT, hB⟩ := hrel
    by_cases hgo : q < L.length
    · obtain ⟨p, hp⟩ : ∃ p, L[q]? = some p := ⟨L[q], by simp [hgo]⟩
      obtain ⟨A, rfl, c0, c1, c2, c3, c4⟩ := (HL.out.below hB.out) q p hp
      have hrp := HR0.out p (List.mem_of_getElem? hp)
      have hD' := hD.out
      rw [dropP hp, dropFrom_cons, show L.take q ++ [p] = L.take (q + 1) by rw [List.take_add_one, hp]; rfl] at hD'
      have hM : L.take (q + 1) = L.take q ++ [p] := by rw [List.take_add_one, hp]; rfl
      have hcl : cntN (L.take q) p.g.toNat p.s.toNat ≤ 72 := Nat.le_trans (cntN_le _ _ _) (by simp; omega)
      obtain ⟨pa, pg, ps, pm, pz⟩ := p
      simp only [] at hrp c0 c1 c2 c3 c4
      obtain ⟨g, rfl⟩ : ∃ g : Nat, pg = (g : Int) := ⟨pg.toNat, by omega⟩
      obtain ⟨s, rfl⟩ : ∃ s : Nat, ps = (s : Int) := ⟨ps.toNat, by omega⟩
      simp only [Int.toNat_natCast] at hcl
      rw [twice_cnt (L.take q) ⟨pa, g, s, pm, pz⟩ g s rfl rfl] at hD'
      have hwlt : Hid (w.heap.size < wr.heap.size) := by
        obtain ⟨cs, h1, -⟩ := hT.out
        exact (Array.getElem?_eq_some_iff.1 h1).1
      have hg3 : g < 3 := by omega
      have hs100 : s < 100 := by omega
      have HD := hide hD'
      have HM := hide hM
      clear hD hD' hM hp
      go_upto_region 5 with fail
      have HG := hide ((Blks.nil wr).more (.cells #[.int .i64 pa, .int .i64 (g : Int), .int .i64 (s : Int), .int .i64 pm, .int .i64 pz] 28) (by simp))
      have HTa := hide (hT.out.below HG.out.2.2)
      have HBa := hide (hB.out.trans (HG.out.2.2.mono hB.out.size))
      clear hT hB c0 c1 c2 c3 c4
      generalize wr.alloc _ = wa at *
      refine wp_region_reads (fun w' => w'.cell? ⟨wr.heap.size, 1, none⟩ = some (.int .i64 (g : Int)) ∧ w'.cell? ⟨wr.heap.size, 2, none⟩ = some (.int .i64 (s : Int))) [0, 1, 2, 3, 4, 5, 8] 4 (by rfl) (by kernel_rfl) (by kernel_rfl) (by kernel_rfl) (fun c d v a w h => by cases d <;> exact h) ?_ ?_
      · exact ⟨(HG.out.on (Below.refl _ _).drew).cell 0 1 _ _ _ _ rfl rfl rfl, (HG.out.on (Below.refl _ _).drew).cell 0 2 _ _ _ _ rfl rfl rfl⟩
      refine wpPureH_step (.pointer (some ⟨wr.heap.size, 1, none⟩)) rfl rfl (fun w' _ => ?_) ?_
      · go_simp
      refine wpPureH_step (.int .i64 g) rfl rfl (fun w' hS => ?_) ?_
      · obtain ⟨k1, k2⟩ := hS
        go_simp
      refine wpPureH_step (.pointer (some ⟨wr.heap.size, 2, none⟩)) rfl rfl (fun w' _ => ?_) ?_
      · go_simp
      refine wpPureH_step (.int .i64 s) rfl rfl (fun w' hS => ?_) ?_
      · obtain ⟨k1, k2⟩ := hS
        go_simp
      refine wpPureH_step (.pointer (some ⟨w.heap.size, g * 100, none⟩)) rfl rfl (fun w' _ => ?_) ?_
      · go_simp
        intro h; omega
      refine wpPureH_step (.pointer (some ⟨w.heap.size, g * 100 + s, none⟩)) rfl rfl (fun w' _ => ?_) ?_
      · go_simp
        intro h; omega
      refine wpPureH_step (.pointer (some ⟨w.heap.size, g * 100, none⟩)) rfl rfl (fun w' _ => ?_) ?_
      · go_simp
        intro h; omega
      refine wpPureH_nil ?_
      have HGd := hide (HG.out.on (Below.refl _ _).drew)
      have HTd := hide (HTa.out.below (Below.refl _ _).drew)
      have HBd := hide (HBa.out.drew)
      clear HG HTa HBa
      generalize World.drew _ = wb at *
      obtain ⟨k0, f0⟩ := HTd.out.cell hg3 hs100
      have hlt := World.block_lt_of_cell? wb _ k0
      have hsz := HGd.out.2.1
      simp only [List.length_append, List.length_cons, List.length_nil] at hsz
      have hwl : w.heap.size < wr.heap.size := by
        have h1 := hwlt.out
        exact h1
      have hwr : IntKind.i64.wrap ((cntN (L.take q) g s : Int) + 1) = (cntN (L.take q) g s : Int) + 1 := by rw [IntKind.wrap_i64]; omega
      have HX := hide (And.intro (HGd.out.cell 0 1 wr.heap.size _ _ _ rfl rfl rfl) (HGd.out.cell 0 2 wr.heap.size _ _ _ rfl rfl rfl))
      have hgI : (g : Int) < 3 := by omega
      have hsI : (s : Int) < 100 := by omega
      clear HGd
      refine one_readyH (i := 6) (by kernel_rfl) rfl rfl (fun K hK => ?_)
      go_simp
      refine hK _ _ HX.out ?_
      clear hK K
      refine one_readyH (i := 7) (by kernel_rfl) rfl rfl (fun K hK => ?_)
      go_simp
      refine hK _ _ HX.out ?_
      clear hK K
      refine one_readyH (i := 9) (by kernel_rfl) rfl rfl (fun K hK => ?_)
      go_simp
      refine hK _ _ HX.out ?_
      clear hK K
      refine one_readyH (i := 10) (by kernel_rfl) rfl rfl (fun K hK => ?_)
      go_simp
      have HTe := hide (HTd.out.more (p := ⟨pa, g, s, pm, pz⟩) hg3 hs100 rfl rfl)
      rw [← HM.out] at HTe
      have HBe := hide (HBd.out.setCell (p := ⟨w.heap.size, g * 100 + s, none⟩) (Nat.le_refl _) (.int .i64 ((cntN (L.take q) g s : Int) + 1)))
      have HXe := hide (And.intro (cell_set_neF (p := ⟨w.heap.size, g * 100 + s, none⟩) (q := ⟨wr.heap.size, 1, none⟩) (u := .int .i64 ((cntN (L.take q) g s : Int) + 1)) (by simp; omega) HX.out.1) (cell_set_neF (p := ⟨w.heap.size, g * 100 + s, none⟩) (q := ⟨wr.heap.size, 2, none⟩) (u := .int .i64 ((cntN (L.take q) g s : Int) + 1)) (by simp; omega) HX.out.2))
      refine hK _ _ HXe.out ?_
      clear hK K HX HTd HBd k0 f0 hlt hsz
      generalize wb.setCell _ _ = wc at *
      refine wpAnyH_done (by kernel_rfl) ?_ _
      obtain ⟨x1, x2⟩ := HXe.out
      have k0 := (HTe.out.cell hg3 hs100).1
      rw [HM.out, cntN_snoc, if_pos (by simp)] at k0
      generalize hc : cntN (L.take q) g s = c at *
      clear hc
      have k0' : wc.cell? ⟨w.heap.size, g * 100 + s, none⟩ = some (.int .i64 ((c : Int) + 1)) := by rw [k0]; simp
      clear k0
      by_cases hc0 : 0 < c
      · have HR' := hide (show R = true by rw [HR.out, HD.out]; simp [hc0])
        have hc1 : (1 : Int) < (c : Int) + 1 := by omega
        clear HD
        go_wp2_with fail
        go_quiet (fail)
        go_wp2_with fail
        go_ret
        exact ⟨by rw [HR'.out]; rfl, below_drewN HBe.out _⟩
      · have HD' := hide (show dupB L = dupFrom (L.take (q + 1)) (L.drop (q + 1)) by rw [HD.out]; simp [hc0])
        have hc1 : ¬ (1 : Int) < (c : Int) + 1 := by omega
        clear HD
        go_wp2_with fail
        go_quiet (fail)
        go_wp2_with fail
        exact ⟨⟨q + 1, by omega, by simp, HD', HTe.out.below (below_drewN (Below.refl _ _) _), below_drewN HBe.out _⟩, by simp [intOf]; omega⟩
    · have hD' := hD.out
      rw [List.drop_of_length_le (by omega)] at hD'
      have HR' := hide (show R = false by rw [HR.out, hD']; rfl)
      clear hD'
      go_wp2_with fail
      go_ret
      exact ⟨by rw [HR'.out]; rfl, hB.out⟩

open Go.Sort (grow SWO PermIn SortedIn HoldsK size_flatK get_flatK holdsK_grow holdsK_putRowK holdsK_ahead putRowK)

instance : Inhabited TP := ⟨⟨0, 0, 0, 0, 0⟩⟩

def encP (p : TP) : List Value := [.int .i64 p.a, .int .i64 p.g, .int .i64 p.s, .int .i64 p.m, .int .i64 p.z]

theorem ltOf_rise (p q : TP) : ltOf riseV p q = decide (befP p q) := by
  rw [ltOf, decide_eq_decide]
  exact riseV_neg p q

theorem swoP : SWO (ltOf riseV) where
  irrefl x := by rw [ltOf_rise]; simpa using befP_irrefl x
  trans x y z h1 h2 := by
    rw [ltOf_rise, decide_eq_true_eq] at *
    exact befP_trans h1 h2
  ntrans x y z h1 h2 := by
    rw [ltOf_rise, decide_eq_false_iff_not] at *
    unfold befP at *
    omega

theorem cmpLaysP (blk off size : Nat) (w : World) : CmpLays Try.prog 44 #[] encP 5 riseV blk off size w :=
  fun _ _ _ _ x y => rise_any x y _

theorem add0P (g j : Nat) : (⟨g, 0, none⟩ : Addr).add j = ⟨g, j, none⟩ := by
  by_cases h : j = 0 <;> simp [Addr.add, h]

theorem holdsP {w : World} {base g c : Nat} {L : List TP} (h : w.ownsRow base 28 5 (.slice (some ⟨g, 0, none⟩) L.length c) L.length (cellsP L)) : HoldsK encP 5 w g 0 L.toArray := by
  intro j hj
  rw [size_flatK] at hj
  have hj' : j < L.length * 5 := by simpa using hj
  rw [get_flatK _ _ _ _ hj, Nat.zero_add, h.cellAt j hj']
  refine ⟨?_, h.frozenAt j⟩
  obtain ⟨p, hp⟩ : ∃ p, L[j / 5]? = some p := ⟨L[j / 5]'(by omega), by simp⟩
  have e := cellsP_get L _ p hp (j % 5) (by omega)
  rw [show j / 5 * 5 + j % 5 = j by omega] at e
  have hd : L.toArray[j / 5]! = p := by
    rw [getElem!_pos _ _ (by simp; omega)]
    simpa using (List.getElem?_eq_some_iff.1 hp).2
  rw [e, hd]
  have h5 : j % 5 < 5 := by omega
  generalize j % 5 = r at *
  match r, h5 with
  | 0, _ | 1, _ | 2, _ | 3, _ | 4, _ => rfl

set_option maxHeartbeats 1600000 in
theorem sortP_any (L : List TP) (base g c : Nat) (w : World) (hown : w.ownsRow base 28 5 (.slice (some ⟨g, 0, none⟩) L.length c) L.length (cellsP L)) (hlen : L.length ≤ 100) :
    Calls Try.prog 43 #[.slice (some ⟨g, 0, none⟩) L.length c, .func (.func 44) #[] #[]] w fun e w' =>
      e = .returned (.tuple #[]) ∧ (∃ M : List TP, M.Perm L ∧ (M.Pairwise fun p q => ¬ befP q p) ∧ TapsAt w' (some ⟨g, 0, none⟩) M) ∧ Below base w w' := by
  have eg : ∀ args w, (callFunc 44 args).run Try.prog w = .ok (.enter 44 args) w := enters_of Try.func44 (by kernel_rfl) rfl
  obtain ⟨hbg, hgl⟩ := hown.lt g rfl
  have hH := holdsP hown
  have hcon := AnyQ.slices_SortFunc sortLay 5 Try.isAgg28 Try.sizeOf28 encP (fun _ => rfl) (fun x v hv => by simp [encP] at hv; rcases hv with rfl | rfl | rfl | rfl | rfl <;> rfl) riseV swoP 44 #[] g 0 c L.toArray w eg (cmpLaysP g 0 L.toArray.size w) hH hgl (by simp; omega)
  change Calls Try.prog 43 _ _ _ at hcon
  rw [show L.toArray.size = L.length by simp] at hcon
  refine hcon.mono ?_
  rintro e w' ⟨rfl, d', n, os, ⟨hs, -, hp⟩, hso, rfl⟩
  have hs' : d'.size = L.length := by simpa using hs
  refine ⟨rfl, ⟨d'.toList, ?_, ?_, ?_⟩, ?_⟩
  · have e1 : d'.extract 0 L.length = d' := by rw [← hs']; simp
    have e2 : L.toArray.extract 0 L.length = L.toArray := by simp
    rw [e1, e2] at hp
    simpa using hp
  · rw [List.pairwise_iff_getElem]
    intro i j hi hj hij
    have hi' : i < d'.size := by simpa using hi
    have hj' : j < d'.size := by simpa using hj
    have h1 := hso i j (Nat.zero_le _) hij (by omega)
    rw [ltOf_rise, decide_eq_false_iff_not, getElem!_pos d' i hi', getElem!_pos d' j hj'] at h1
    simpa using h1
  · have h2 : HoldsK encP 5 (sortWorldK encP 5 w g 0 n d' os) g 0 d' := by
      unfold sortWorldK
      refine holdsK_grow encP 5 _ _ _ _ _ (by simpa [putRowK, Go.Sort.putRow, Go.Sort.mapBlock, Go.Sort.ahead] using hgl) ?_
      exact holdsK_putRowK encP 5 _ _ _ L.toArray d' (holdsK_ahead encP 5 w n g 0 L.toArray hH) (by simpa using hs)
    intro i p hp'
    refine ⟨_, rfl, ?_⟩
    have hi : i < d'.size := by
      have := (List.getElem?_eq_some_iff.1 hp').1
      simpa using this
    have hd : d'[i]! = p := by
      rw [getElem!_pos d' i hi]
      simpa using (List.getElem?_eq_some_iff.1 hp').2
    have hc := fun k hk => (h2.cell (i := i) (c := k) hi hk).1
    rw [hd] at hc
    simp only [Nat.zero_add] at hc
    rw [add0P]
    exact ⟨hc 0 (by omega), hc 1 (by omega), hc 2 (by omega), hc 3 (by omega), hc 4 (by omega)⟩
  · unfold sortWorldK
    refine ⟨rfl, rfl, rfl, ?_, ?_⟩
    · simp [grow, putRowK, Go.Sort.putRow, Go.Sort.mapBlock, Go.Sort.ahead]
    · intro k hk
      simp only [grow, putRowK, Go.Sort.putRow, Go.Sort.mapBlock, Go.Sort.ahead]
      rw [Array.getElem?_append_left (by simp; omega), Array.getElem?_modify, if_neg (by omega)]

theorem dupFrom_false (A L : List TP) : dupFrom A L = false ↔ (DistP L ∧ ∀ a ∈ A, ∀ p ∈ L, ¬ (a.g = p.g ∧ a.s = p.s)) := by
  induction L generalizing A with
  | nil => simp [dupFrom, DistP]
  | cons p L ih =>
    rw [dropFrom_cons, Bool.or_eq_false_iff, ih]
    have h1 : twiceT A p = false ↔ ∀ a ∈ A, ¬ (a.g = p.g ∧ a.s = p.s) := by
      rw [twiceT, List.any_eq_false]
      simp
    rw [h1]
    constructor
    · rintro ⟨h2, h3, h4⟩
      refine ⟨List.pairwise_cons.2 ⟨fun q hq => h4 p (by simp) q hq, h3⟩, fun a ha q hq => ?_⟩
      rcases List.mem_cons.1 hq with rfl | hq
      · exact h2 a ha
      · exact h4 a (by simp [ha]) q hq
    · rintro ⟨h2, h3⟩
      obtain ⟨h4, h5⟩ := List.pairwise_cons.1 h2
      refine ⟨fun a ha => h3 a ha p (by simp), h5, fun a ha q hq => ?_⟩
      rcases List.mem_append.1 ha with ha | ha
      · exact h3 a ha q (by simp [hq])
      · obtain rfl : a = p := by simpa using ha
        exact h4 q hq

theorem dupB_false (L : List TP) : dupB L = false ↔ DistP L := by
  rw [dupB, dupFrom_false]
  simp

theorem firstE_map_zero {L : List TP} : firstE (L.map chkT) = 0 ↔ ∀ p ∈ L, chkT p = 0 := by
  induction L with
  | nil => simp [firstE]
  | cons p L ih =>
    rw [List.map_cons, firstE]
    by_cases h : chkT p = 0
    · rw [if_pos h, ih]
      simp [h]
    · rw [if_neg h]
      simp [h]

theorem chkT_range {p : TP} (h : chkT p = 0) : (0 ≤ p.g ∧ p.g ≤ 2) ∧ (1 ≤ p.s ∧ p.s ≤ 99) := by
  rw [chkT, chkP] at h
  by_cases h1 : (wi p.a 1 9999 && wi p.g 0 2 && wi p.s 1 99 && wi p.m 0 9999) = false
  · rw [if_pos h1] at h; omega
  · simp only [Bool.not_eq_false, Bool.and_eq_true, wi_iff] at h1
    exact ⟨h1.1.1.2, h1.1.2⟩

/-- what Order says, and gives -/
def ordE (L : List TP) : Int := if 72 < L.length then 2 else if firstE (L.map chkT) = 0 then (if dupB L = true then 6 else 0) else firstE (L.map chkT)
def ordR (L : List TP) : List TP := if ordE L = 0 then srt L else []

theorem ordE_ways (L : List TP) : (72 < L.length ∧ ordE L = 2 ∧ ordR L = []) ∨ (L.length ≤ 72 ∧ (firstE (L.map chkT) != 0) = true ∧ ordE L = firstE (L.map chkT) ∧ ordR L = []) ∨ (L.length ≤ 72 ∧ firstE (L.map chkT) = 0 ∧ dupB L = true ∧ ordE L = 6 ∧ ordR L = []) ∨
    (L.length ≤ 72 ∧ firstE (L.map chkT) = 0 ∧ dupB L = false ∧ ordE L = 0 ∧ ordR L = srt L) := by
  by_cases h1 : 72 < L.length
  · have e : ordE L = 2 := by rw [ordE, if_pos h1]
    left; exact ⟨h1, e, by rw [ordR, e]; rfl⟩
  · right
    by_cases h2 : firstE (L.map chkT) = 0
    · right
      cases h3 : dupB L
      · have e : ordE L = 0 := by rw [ordE, if_neg h1, if_pos h2, h3]; rfl
        right; exact ⟨by omega, h2, rfl, e, by rw [ordR, e]; rfl⟩
      · have e : ordE L = 6 := by rw [ordE, if_neg h1, if_pos h2, h3]; rfl
        left; exact ⟨by omega, h2, rfl, e, by rw [ordR, e]; rfl⟩
    · have e : ordE L = firstE (L.map chkT) := by rw [ordE, if_neg h1, if_neg h2]
      left; exact ⟨by omega, by simpa using h2, e, by rw [ordR, e, if_neg h2]⟩

theorem ordE_right {L : List TP} (h : ordE L = 0) : L.length ≤ 72 ∧ (∀ p ∈ L, chkT p = 0) ∧ DistP L := by
  rcases ordE_ways L with ⟨-, h2, -⟩ | ⟨-, h1, h2, -⟩ | ⟨-, -, -, h2, -⟩ | ⟨h1, h2, h3, -⟩
  · omega
  · rw [h2] at h
    rw [h] at h1
    simp at h1
  · omega
  · exact ⟨h1, firstE_map_zero.1 h2, (dupB_false L).1 h3⟩

theorem ordE_zero {L : List TP} (h1 : L.length ≤ 72) (h2 : ∀ p ∈ L, chkT p = 0) (h3 : DistP L) : ordE L = 0 := by
  rw [ordE, if_neg (by omega), if_pos (firstE_map_zero.2 h2), (dupB_false L).2 h3]
  rfl

set_option maxHeartbeats 1600000 in
theorem clonePO_any (L : List TP) (A : Addr) (cap : Nat) (w : World) (hL : TapsAt w (some A) L) (hlen : L.length ≤ 72) :
    Calls Try.prog 42 #[.slice (some A) L.length cap] w fun e w' => (∃ g c, e = .returned (.slice (some ⟨g, 0, none⟩) L.length c) ∧ w.heap.size ≤ g ∧ L.length ≤ c ∧ w'.ownsRow w.heap.size 28 5 (.slice (some ⟨g, 0, none⟩) L.length c) L.length (cellsP L)) ∧ Below w.heap.size w w' := by
  obtain ⟨i0, hi, hz0, hz1, hz2⟩ := info_parts info32
  have q : ∀ (w : World) (a : Option Addr) (n c n' c' : Nat), (binOp .eql 23 (.slice a n c) (.slice none n' c')).run Try.prog w = .ok (.bool a.isNone) w := fun w a n c n' c' => Lib.run_eql_slice_nil w _ _ a n c n' c' Try.underlying23
  have HN := hide (taps_cells (hL.below ((Below.refl w.heap.size w).alloc (Nat.le_refl _) (.cells #[] 28))))
  have HO := hide (World.ownsRow_made (base := w.heap.size) (e := 28) (size := 5) w #[] 0 (Nat.le_refl _) (by decide) rfl)
  clear hL
  go_enter Try.func42, Try.ntmps42
  go_wp2_with (at_builtin; refine wpList_append_own _ rfl _ _ 23 rfl w.heap.size 28 i0 _ 5 40 Try.underlying23 hi hz0 hz1 hz2 rfl (by decide) _ 0 _ rfl HO.out A L.length cap (cellsP L) rfl (cellsP_len L) HN.out (oneP L) (by unfold maxLen; omega) (by omega) (by simp) ?_; intro v1 w1 hown1 hgrow1 hnil)
  go_ret
  refine ⟨?_, ((Below.refl w.heap.size w).alloc (Nat.le_refl _) _).grown hgrow1 (by simp) (fun k hk => (HO.out.lt k hk).1)⟩
  have hn : 0 + L.length = L.length := by omega
  rw [hn] at hown1
  rcases hown1.2 with ⟨h0, -⟩ | ⟨g, c, cur, rfl, hg, -, hc, -⟩
  · have := (hnil.1 h0).1
    simp [Act.eval] at this
  · exact ⟨g, c, rfl, hg, hc, hown1⟩

theorem tapsV_nilO (w : World) : TapsV w (.slice none 0 0) [] := ⟨none, 0, rfl, fun i p h => by simp at h, by simp, fun _ => rfl⟩
theorem fresh_nilO (B : Nat) : Fresh B (.slice none 0 0) := fun k hk => by simp [Value.ownBlock] at hk

theorem cloneNil (w : World) : Calls Try.prog 42 #[.slice none 0 0] w fun e w' => e = .returned (.slice none 0 0) ∧ w' = w := by
  have q : ∀ (w : World) (a : Option Addr) (n c n' c' : Nat), (binOp .eql 23 (.slice a n c) (.slice none n' c')).run Try.prog w = .ok (.bool a.isNone) w := fun w a n c n' c' => Lib.run_eql_slice_nil w _ _ a n c n' c' Try.underlying23
  go_enter Try.func42, Try.ntmps42
  go_wp2
  go_ret
  exact ⟨rfl, rfl⟩

theorem sortNil (w : World) : Calls Try.prog 43 #[.slice none 0 0, .func (.func 44) #[] #[]] w fun e w' => e = .returned (.tuple #[]) ∧ w' = w := by
  have h := AnyF.slices_SortFunc_none sortLay none 0 (.func (.func 44) #[] #[]) w
  change Calls Try.prog 43 _ _ _ at h
  exact h

set_option maxHeartbeats 3200000 in
theorem order_any (o : Option Addr) (cap : Nat) (L : List TP) (w : World) (hL : TapsAt w o L) (hlen : L.length ≤ 9223372036854775807) (hnone : o = none → cap = 0) :
    Calls Try.prog 13 #[.slice o L.length cap] w fun e w' => (∃ o' n c', e = .returned (.tuple #[.slice o' n c', .int .i64 (ordE L)]) ∧ TapsV w' (.slice o' n c') (ordR L) ∧ Fresh w.heap.size (.slice o' n c')) ∧ Below w.heap.size w w' := by
  have HL := hide hL
  have HC := hide (fun W (h : TapsAt W o L) => eachC_any o cap L W h hlen)
  rcases ordE_ways L with ⟨h1, h2, h3⟩ | ⟨h1, h4, h2, h3⟩ | ⟨h1, h4, h5, h2, h3⟩ | ⟨h1, h4, h5, h2, h3⟩
  · rw [h2, h3]
    have h1' : (72 : Int) < (L.length : Int) := by omega
    clear hL h1 h2 h3
    go_enter Try.func13, Try.ntmps13
    go_wp2_with fail
    go_ret2
    exact ⟨⟨_, _, _, rfl, tapsV_nilO _, fresh_nilO _⟩, Below.refl _ _⟩
  · rw [h2, h3]
    have h1' : ¬ (72 : Int) < (L.length : Int) := by omega
    clear hL h1 h2 h3
    generalize firstE (L.map chkT) = E at *
    go_enter Try.func13, Try.ntmps13
    go_wp2_with fail
    refine (HC.out _ HL.out).mono ?_
    rintro e w1 ⟨rfl, hb⟩
    have HB := hide hb
    clear hb
    go_wp2_with fail
    go_ret2
    exact ⟨⟨_, _, _, rfl, tapsV_nilO _, fresh_nilO _⟩, HB.out⟩
  · have HT := hide (fun W (h : TapsAt W o L) => twice_any o cap L W h h1 (fun p hp => chkT_range (firstE_map_zero.1 h4 p hp)))
    rw [h5] at HT
    rw [h4] at HC
    rw [h2, h3]
    have h1' : ¬ (72 : Int) < (L.length : Int) := by omega
    clear hL h1 h2 h3 h4 h5
    go_enter Try.func13, Try.ntmps13
    go_wp2_with fail
    refine (HC.out _ HL.out).mono ?_
    rintro e w1 ⟨rfl, hb⟩
    have HB := hide hb
    have HL1 := hide (HL.out.below hb)
    clear hb
    go_wp2_with fail
    refine (HT.out _ HL1.out).mono ?_
    rintro e w2 ⟨rfl, hb⟩
    have HB2 := hide (HB.out.trans (hb.mono HB.out.size))
    clear hb
    go_wp2_with fail
    go_ret2
    exact ⟨⟨_, _, _, rfl, tapsV_nilO _, fresh_nilO _⟩, HB2.out⟩
  · have HT := hide (fun W (h : TapsAt W o L) => twice_any o cap L W h h1 (fun p hp => chkT_range (firstE_map_zero.1 h4 p hp)))
    rw [h5] at HT
    rw [h4] at HC
    rw [h2]
    have hd := (dupB_false L).1 h5
    have h1' : ¬ (72 : Int) < (L.length : Int) := by omega
    clear h2 h4 h5
    cases o with
    | none =>
      have hL0 : L = [] := by
        cases L with
        | nil => rfl
        | cons x L => obtain ⟨b, hb, -⟩ := hL 0 x rfl; cases hb
      subst hL0
      obtain rfl := hnone rfl
      have hs0 : srt [] = [] := List.eq_nil_of_length_eq_zero (srt_len [])
      rw [h3, hs0]
      clear hL h3 hd hs0 h1
      go_enter Try.func13, Try.ntmps13
      go_wp2_with fail
      refine (HC.out _ HL.out).mono ?_
      rintro e w1 ⟨rfl, hb⟩
      have HB := hide hb
      have HL1 := hide (HL.out.below hb)
      clear hb
      go_wp2_with fail
      refine (HT.out _ HL1.out).mono ?_
      rintro e w2 ⟨rfl, hb⟩
      have HL2 := hide (HL1.out.below hb)
      have HB2 := hide (HB.out.trans (hb.mono HB.out.size))
      clear hb
      go_wp2_with fail
      refine (cloneNil w2).mono ?_
      rintro e w3 ⟨rfl, hw3⟩
      obtain rfl := hw3.symm
      go_wp2_with fail
      refine (sortNil w2).mono ?_
      rintro e w3 ⟨rfl, hw3⟩
      obtain rfl := hw3.symm
      go_wp2_with fail
      go_ret2
      exact ⟨⟨_, _, _, rfl, tapsV_nilO _, fresh_nilO _⟩, HB2.out⟩
    | some A =>
      have HK := hide (fun W (h : TapsAt W (some A) L) => clonePO_any L A cap W h h1)
      have HD := hide hd
      have H3 := hide h3
      have hlL : L.length ≤ 100 := by omega
      clear hL hd h1 h3
      generalize ordR L = R at *
      go_enter Try.func13, Try.ntmps13
      go_wp2_with fail
      refine (HC.out _ HL.out).mono ?_
      rintro e w1 ⟨rfl, hb⟩
      have HB := hide hb
      have HL1 := hide (HL.out.below hb)
      clear hb
      go_wp2_with fail
      refine (HT.out _ HL1.out).mono ?_
      rintro e w2 ⟨rfl, hb⟩
      have HL2 := hide (HL1.out.below hb)
      have HB2 := hide (HB.out.trans (hb.mono HB.out.size))
      clear hb
      go_wp2_with fail
      refine (HK.out _ HL2.out).mono ?_
      rintro e w3 ⟨⟨g, c, rfl, hg, hc, hown⟩, hb⟩
      have HO := hide hown
      have HB3 := hide (HB2.out.trans (hb.mono HB2.out.size))
      have HG := hide (show w.heap.size ≤ g from Nat.le_trans HB2.out.size hg)
      have HCc := hide hc
      have HB23 := hide HB2.out.size
      clear hown hb hg hc
      go_wp2_with fail
      refine (sortP_any L w2.heap.size g c w3 HO.out hlL).mono ?_
      rintro e w4 ⟨rfl, ⟨M, hp, hs, hM⟩, hb4⟩
      have hord : Ord M := (hs.and (HD.out.perm hp.symm)).imp (fun ⟨h1, h2⟩ => befP_total h2 h1)
      have hMe : M = R := (srt_eq hord hp HD.out).trans H3.out.symm
      have hMl := hp.length_eq
      subst hMe
      have HM := hide hM
      have HB4 := hide (HB3.out.trans (hb4.mono HB23.out))
      have HLn := hide hMl
      clear hp hs hM hb4 hord hMl
      go_wp2_with fail
      go_ret2
      refine ⟨⟨_, _, _, rfl, ⟨some ⟨g, 0, none⟩, c, ?_, HM.out, ?_, fun h => by cases h⟩, fun k hk => by cases hk; exact HG.out⟩, HB4.out⟩
      · rw [HLn.out]
      · rw [HLn.out]; exact HCc.out

end Go.Proofs.Ytefdnddaggpgkaa
