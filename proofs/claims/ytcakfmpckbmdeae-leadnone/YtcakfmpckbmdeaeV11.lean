/-
  'New' (package station).
-/
import Derived.Test.YtcakfmpckbmdeaeV6
namespace Go.Proofs.Ytcakfmpckbmdeae
open Go.RowKit

/-- a gate that lies in memory: its cells -/
structure GT where
  i : Int
  z : Int
  s : Int
  oa : Option Addr
  A : List TP
  ca : Nat
  v : Int
  od : Option Addr
  D : List Int
  cd : Nat
  l : Int
  u : Int

def GT.cells (g : GT) : List Value := [.int .i64 g.i, .int .i64 g.z, .int .i64 g.s, .slice g.oa g.A.length g.ca, .int .i64 g.v, .slice g.od g.D.length g.cd, .int .i64 g.l, .int .i64 g.u]
def cellsG (L : List GT) : List Value := L.flatMap GT.cells

theorem cellsG_app (L M : List GT) : cellsG (L ++ M) = cellsG L ++ cellsG M := by simp [cellsG]
theorem cellsG_len (L : List GT) : (cellsG L).length = L.length * 8 := by
  induction L with
  | nil => rfl
  | cons p L ih =>
    rw [cellsG, List.flatMap_cons, List.length_append, List.length_cons, ← cellsG, ih]
    simp [GT.cells]; omega
theorem oneG (L : List GT) : ∀ u ∈ cellsG L, u.oneCell' = true := by
  intro u hu
  simp only [cellsG, GT.cells, List.mem_flatMap, List.mem_cons, List.not_mem_nil, or_false] at hu
  obtain ⟨p, -, h⟩ := hu
  rcases h with rfl | rfl | rfl | rfl | rfl | rfl | rfl | rfl <;> rfl

theorem infoGt : (Try.prog.info? 144).map (fun i => (i.zero, i.size, i.bytes)) = some (some (.agg #[.int .i64 0, .int .i64 0, .int .i64 0, .slice none 0 0, .int .i64 0, .slice none 0 0, .int .i64 0, .int .i64 0]), 8, 96) := by kernel_rfl

theorem ownsRow_set {w : World} {base : Nat} {e : TypeId} {size : Nat} {v : Value} {n : Nat} {xs : List Value} (h : w.ownsRow base e size v n xs) {p : Addr} (hp : p.block < base) (u : Value) : (w.setCell p u).ownsRow base e size v n xs := by
  refine ⟨h.1, ?_⟩
  rcases h.2 with h0 | ⟨g, cap, cur, h1, h2, h3, h4⟩
  · exact .inl h0
  · refine .inr ⟨g, cap, cur, h1, h2, ?_, h4⟩
    rw [heap_setCell_other w _ _ _ (by omega)]
    exact h3

/-- the gates and the views of a new station -/
def gt0 (i z : Int) : GT := ⟨i, z, 0, none, [], 0, 0, none, [], 0, 9, 100⟩
def newG : List GT := [gt0 0 1, gt0 1 2, gt0 2 4]
def newV : List VW := [⟨0, 0, true⟩, ⟨0, 0, true⟩, ⟨0, 0, true⟩]

/-- a station, as the model holds it -/
abbrev stV (o1 o2 o3 : Option Addr) (n1 c1 n2 c2 n3 c3 : Nat) (v : Int) (od : Option Addr) (nd cd : Nat) (og : Option Addr) (ng cg : Nat) (ov : Option Addr) (nv cv : Nat) : Value :=
  .agg #[.slice o1 n1 c1, .slice o2 n2 c2, .slice o3 n3 c3, .int .i64 v, .slice od nd cd, .slice og ng cg, .slice ov nv cv]

theorem eight_new (w : World) (x : GT) (T : TypeId) : ∀ j u, x.cells[j]? = some u → (w.alloc (.cells x.cells.toArray T)).cell? ((⟨w.heap.size, 0, none⟩ : Addr).add j) = some u := by
  intro j u hj
  rw [show ((⟨w.heap.size, 0, none⟩ : Addr).add j) = ⟨w.heap.size, j, none⟩ by by_cases h : j = 0 <;> simp [Addr.add, h], cell_of_row _ _ j _ _ _ (heap_alloc_new w _)]
  simpa using hj

theorem three_newV (w : World) (T : TypeId) : ∀ j u, [Value.int .i64 0, .int .i64 0, .bool true][j]? = some u → (w.alloc (.cells #[.int .i64 0, .int .i64 0, .bool true] T)).cell? ((⟨w.heap.size, 0, none⟩ : Addr).add j) = some u := by
  intro j u hj
  match j, hj with
  | 0, hj | 1, hj | 2, hj =>
    simp at hj
    subst hj
    simp [Addr.add, go_sem]

theorem own_slice {w : World} {base : Nat} {e : TypeId} {size : Nat} {v : Value} {n : Nat} {xs : List Value} (h : w.ownsRow base e size v n xs) : ∃ o c, v = .slice o n c ∧ n ≤ c ∧ (o = none → c = 0) := by
  rcases h.2 with ⟨rfl, h0⟩ | ⟨g, cap, cur, rfl, -, -, hc, -⟩
  · exact ⟨none, 0, by rw [h0], by omega, fun _ => rfl⟩
  · exact ⟨_, cap, rfl, hc, fun h => by cases h⟩

theorem new_step {w wa w1 : World} {os : List Obj} {gv v v1 : Value} {n n' : Nat} {xs ys zs : List Value} (hl : os.length = 2) (hG : Blks w wa os) (hO : wa.ownsRow (w.heap.size + 1 + 1) 144 8 gv 3 xs) (hV : wa.ownsRow (w.heap.size + 1 + 1) 106 3 v n ys)
    (hown : w1.ownsRow (w.heap.size + 1 + 1) 106 3 v1 n' zs) (hgrow : wa.grownBy w1 v.ownBlock) : ∃ o' c', v1 = .slice o' n' c' ∧ Blks w w1 os ∧ w1.ownsRow (w.heap.size + 1 + 1) 144 8 gv 3 xs := by
  obtain ⟨o', c', rfl, -⟩ := own_slice hown
  have hsz := hG.2.1
  refine ⟨o', c', rfl, hG.keep ?_, ?_⟩
  · exact (Below.refl _ _).grown hgrow (by omega) (fun k hk => by have := (hV.lt k hk).1; omega)
  · refine ownsRow_far hO hgrow (fun g cur hg he => ?_)
    obtain ⟨-, cur', h⟩ := ownsRow_block hV g hg
    rw [h] at he
    simp at he

set_option maxHeartbeats 6400000 in
set_option maxRecDepth 100000 in
theorem new_any (w : World) :
    Calls Try.prog 70 #[] w fun e w' => (∃ og cg ov cv, e = .returned (stV none none none 0 0 0 0 0 0 0 none 0 0 og 3 cg ov 3 cv) ∧ w'.ownsRow (w.heap.size + 1 + 1) 144 8 (.slice og 3 cg) 3 (cellsG newG) ∧ w'.ownsRow (w.heap.size + 1 + 1) 106 3 (.slice ov 3 cv) 3 (cellsW newV)) ∧ Below w.heap.size w w' := by
  obtain ⟨i0, hi, hz0, hz1, hz2⟩ := info_parts infoGt
  obtain ⟨j0, ji, jz0, jz1, jz2⟩ := info_parts infoVw
  have HG0 := hide (((Blks.nil w).more (.cells #[.slice none 0 0, .slice none 0 0, .slice none 0 0, .int .i64 0, .slice none 0 0, .slice none 0 0, .slice none 0 0] 111) (by simp)).more (.cells #[.slice none 0 0, .slice none 0 0, .slice none 0 0, .int .i64 0, .slice none 0 0, .slice none 0 0, .slice none 0 0] 140) (by simp))
  go_enter Try.func70, Try.ntmps70
  go_wp2_with fail
  generalize (w.alloc _).alloc _ = w0 at *
  go_loopw [3] (fun j wr => ∃ (q : Nat) (o : Option Addr) (c : Nat), q ≤ 3 ∧ j = .int .i64 q ∧ Hid (Blks w wr [.cells #[.slice none 0 0, .slice none 0 0, .slice none 0 0, .int .i64 0, .slice none 0 0, .slice none 0 0, .slice none 0 0] 111, .cells #[.slice none 0 0, .slice none 0 0, .slice none 0 0, .int .i64 0, .slice none 0 0, .slice o q c, .slice none 0 0] 140]) ∧ Hid (wr.ownsRow (w.heap.size + 1 + 1) 144 8 (.slice o q c) q (cellsG (newG.take q)))) (fun j _ => 3 - (intOf j).toNat)
  case atStart => exact ⟨0, none, 0, by omega, rfl, HG0.out, World.ownsRow_nil _ _ _ _⟩
  case round =>
    obtain ⟨q, o, c, hq, rfl, hG, hO⟩ := hrel
    by_cases hgo : q < 3
    · have hq3 : (q : Int) < 3 := by omega
      have l1 := hG.out.lt 1 (w.heap.size + 1) (by simp) rfl
      have c5 := hG.out.cell 1 5 (w.heap.size + 1) _ _ _ rfl rfl rfl
      have hsz := hG.out.2.1
      simp only [List.length_cons, List.length_nil] at hsz
      obtain ⟨z, hz⟩ : ∃ z : Int, z = 2 ^ q := ⟨_, rfl⟩
      have HS : Hid (newG.take (q + 1) = newG.take q ++ [gt0 q z]) := by
        show _ = _
        rw [hz]
        rcases (by omega : q = 0 ∨ q = 1 ∨ q = 2) with rfl | rfl | rfl <;> rfl
      have HZ := hide hz
      clear hz
      have hq0 : ¬ ((q : Int) < 0) := by omega
      go_wp2_with fail
      refine wp_region_reads (fun _ => True) [0, 1, 3, 4, 5, 6, 7] 6 (by rfl) (by kernel_rfl) (by kernel_rfl) (by kernel_rfl) (fun c d v a w h => by cases d <;> exact h) trivial ?_
      refine wpPureH_step (.pointer (some ⟨w.heap.size + 1, 0, none⟩)) rfl rfl (fun w' _ => ?_) ?_
      · go_simp
      refine wpPureH_step (.pointer (some ⟨w.heap.size + 1, 5, none⟩)) rfl rfl (fun w' _ => ?_) ?_
      · go_simp
      refine wpPureH_step (.int .i64 (q : Int)) rfl rfl (fun w' _ => ?_) ?_
      · go_simp
      refine wpPureH_step (.int .i64 (q : Int)) rfl rfl (fun w' _ => ?_) ?_
      · go_simp
      refine wpPureH_step (.int .i64 z) rfl rfl (fun w' _ => ?_) ?_
      · rw [HZ.out]; rcases (by omega : q = 0 ∨ q = 1 ∨ q = 2) with rfl | rfl | rfl <;> (go_simp; decide)
      refine wpPureH_step (.agg #[.int .i64 9, .int .i64 100]) rfl rfl (fun w' _ => ?_) ?_
      · go_simp
      refine wpPureH_step (.agg #[.int .i64 (q : Int), .int .i64 z, .int .i64 0, .slice none 0 0, .int .i64 0, .slice none 0 0, .int .i64 9, .int .i64 100]) rfl rfl (fun w' _ => ?_) ?_
      · go_simp
      refine wpPureH_nil ?_
      have HGd := hide (hG.out.on (Below.refl _ _).drew)
      have HOd := hide (ownsRow_below hO.out (Below.refl _ _).drew)
      clear c5 l1 hG hO
      generalize World.drew _ = wa at *
      have hsz := HGd.out.2.1
      simp only [List.length_cons, List.length_nil] at hsz
      have l1 := HGd.out.lt 1 (w.heap.size + 1) (by simp) rfl
      have c5 := HGd.out.cell 1 5 (w.heap.size + 1) _ _ _ rfl rfl rfl
      have HGe := hide (HGd.out.on ((Below.refl wa.heap.size wa).alloc (Nat.le_refl _) (.cells #[.int .i64 (q : Int), .int .i64 z, .int .i64 0, .slice none 0 0, .int .i64 0, .slice none 0 0, .int .i64 9, .int .i64 100] 144)))
      have HOe := hide (ownsRow_below HOd.out ((Below.refl wa.heap.size wa).alloc (Nat.le_refl _) (.cells #[.int .i64 (q : Int), .int .i64 z, .int .i64 0, .slice none 0 0, .int .i64 0, .slice none 0 0, .int .i64 9, .int .i64 100] 144)))
      have HN : Hid (∀ j u, (gt0 q z).cells[j]? = some u → (wa.alloc (.cells #[.int .i64 (q : Int), .int .i64 z, .int .i64 0, .slice none 0 0, .int .i64 0, .slice none 0 0, .int .i64 9, .int .i64 100] 144)).cell? ((⟨wa.heap.size, 0, none⟩ : Addr).add j) = some u) := eight_new wa (gt0 q z) 144
      have hsze : (wa.alloc (.cells #[.int .i64 (q : Int), .int .i64 z, .int .i64 0, .slice none 0 0, .int .i64 0, .slice none 0 0, .int .i64 9, .int .i64 100] 144)).heap.size = wa.heap.size + 1 := by simp
      have c5e := HGe.out.cell 1 5 (w.heap.size + 1) _ _ _ rfl rfl rfl
      have l1e := HGe.out.lt 1 (w.heap.size + 1) (by simp) rfl
      refine two_readyH (i := 2) (j := 8) (by kernel_rfl) rfl rfl rfl rfl (fun K hK => ?_) (fun K hK => ?_)
      · go_simp
        refine hK _ _ trivial ?_
        clear hK K
        refine one_readyH (i := 8) (by kernel_rfl) rfl rfl (fun K hK => ?_)
        go_simp
        refine hK _ _ trivial ?_
        clear hK K
        generalize wa.alloc (.cells #[.int .i64 (q : Int), .int .i64 z, .int .i64 0, .slice none 0 0, .int .i64 0, .slice none 0 0, .int .i64 9, .int .i64 100] 144) = wb at *
        refine one_readyH (i := 9) (by kernel_rfl) rfl rfl (fun K hK => ?_)
        refine wp_append_row _ _ 109 rfl (w.heap.size + 1 + 1) 144 i0 _ 8 96 Try.underlying109 hi hz0 hz1 hz2 rfl (by decide) (.slice o q c) q (cellsG (newG.take q)) (by go_simp) HOe.out (some ⟨wa.heap.size, 0, none⟩) 1 1 (gt0 q z).cells (by go_simp) rfl (fun ad e => by cases e; exact HN.out) (fun u hu => oneG [gt0 q z] u (by simpa [cellsG] using hu)) (fun e => by cases e) (by unfold maxLen; omega) (by omega) (by omega) ?_
        intro v' wc hown hgrow
        refine hK _ _ trivial ?_
        clear hK K
        obtain ⟨o', c', rfl, -⟩ := own_slice hown
        have HGf : Hid (Blks w wc [.cells #[.slice none 0 0, .slice none 0 0, .slice none 0 0, .int .i64 0, .slice none 0 0, .slice none 0 0, .slice none 0 0] 111, .cells #[.slice none 0 0, .slice none 0 0, .slice none 0 0, .int .i64 0, .slice none 0 0, .slice o q c, .slice none 0 0] 140]) := by
          refine hide (HGe.out.keep ?_)
          exact (Below.refl _ _).grown hgrow (by simp; omega) (fun k hk => by have := (HOe.out.lt k hk).1; simp; omega)
        have HOf : Hid (wc.ownsRow (w.heap.size + 1 + 1) 144 8 (.slice o' (q + 1) c') (q + 1) (cellsG (newG.take (q + 1)))) := by
          show World.ownsRow _ _ _ _ _ _ _
          rw [HS.out, cellsG_app]
          simpa [cellsG] using hown
        clear hown hgrow
        have l1f := HGf.out.lt 1 (w.heap.size + 1) (by simp) rfl
        have c5f := HGf.out.cell 1 5 (w.heap.size + 1) _ _ _ rfl rfl rfl
        have f5f := HGf.out.frozen 1 5 (w.heap.size + 1) _ _ rfl rfl
        refine one_readyH (i := 10) (by kernel_rfl) rfl rfl (fun K hK => ?_)
        go_simp
        refine hK _ _ trivial ?_
        clear hK K
        refine one_readyH (i := 11) (by kernel_rfl) rfl rfl (fun K hK => ?_)
        go_simp
        refine hK _ _ trivial ?_
        clear hK K
        refine one_readyH (i := 12) (by kernel_rfl) rfl rfl (fun K hK => ?_)
        go_simp
        refine hK _ _ trivial ?_
        clear hK K
        refine wpAnyH_done (by kernel_rfl) ?_ _
        have HGg := hide (HGf.out.put 1 5 (w.heap.size + 1) _ _ (.slice o' (q + 1) c') rfl rfl)
        have HOg := hide (ownsRow_set HOf.out (p := ⟨w.heap.size + 1, 5, none⟩) (by simp) (.slice o' (q + 1) c'))
        go_wp2_with fail
        exact ⟨⟨q + 1, o', c', by omega, by simp, HGg, HOg⟩, by simp [intOf]; omega⟩
      · go_simp
        refine hK _ _ trivial ?_
        clear hK K
        refine one_readyH (i := 2) (by kernel_rfl) rfl rfl (fun K hK => ?_)
        go_simp
        refine hK _ _ trivial ?_
        clear hK K
        generalize wa.alloc (.cells #[.int .i64 (q : Int), .int .i64 z, .int .i64 0, .slice none 0 0, .int .i64 0, .slice none 0 0, .int .i64 9, .int .i64 100] 144) = wb at *
        refine one_readyH (i := 9) (by kernel_rfl) rfl rfl (fun K hK => ?_)
        refine wp_append_row _ _ 109 rfl (w.heap.size + 1 + 1) 144 i0 _ 8 96 Try.underlying109 hi hz0 hz1 hz2 rfl (by decide) (.slice o q c) q (cellsG (newG.take q)) (by go_simp) HOe.out (some ⟨wa.heap.size, 0, none⟩) 1 1 (gt0 q z).cells (by go_simp) rfl (fun ad e => by cases e; exact HN.out) (fun u hu => oneG [gt0 q z] u (by simpa [cellsG] using hu)) (fun e => by cases e) (by unfold maxLen; omega) (by omega) (by omega) ?_
        intro v' wc hown hgrow
        refine hK _ _ trivial ?_
        clear hK K
        obtain ⟨o', c', rfl, -⟩ := own_slice hown
        have HGf : Hid (Blks w wc [.cells #[.slice none 0 0, .slice none 0 0, .slice none 0 0, .int .i64 0, .slice none 0 0, .slice none 0 0, .slice none 0 0] 111, .cells #[.slice none 0 0, .slice none 0 0, .slice none 0 0, .int .i64 0, .slice none 0 0, .slice o q c, .slice none 0 0] 140]) := by
          refine hide (HGe.out.keep ?_)
          exact (Below.refl _ _).grown hgrow (by simp; omega) (fun k hk => by have := (HOe.out.lt k hk).1; simp; omega)
        have HOf : Hid (wc.ownsRow (w.heap.size + 1 + 1) 144 8 (.slice o' (q + 1) c') (q + 1) (cellsG (newG.take (q + 1)))) := by
          show World.ownsRow _ _ _ _ _ _ _
          rw [HS.out, cellsG_app]
          simpa [cellsG] using hown
        clear hown hgrow
        have l1f := HGf.out.lt 1 (w.heap.size + 1) (by simp) rfl
        have c5f := HGf.out.cell 1 5 (w.heap.size + 1) _ _ _ rfl rfl rfl
        have f5f := HGf.out.frozen 1 5 (w.heap.size + 1) _ _ rfl rfl
        refine one_readyH (i := 10) (by kernel_rfl) rfl rfl (fun K hK => ?_)
        go_simp
        refine hK _ _ trivial ?_
        clear hK K
        refine one_readyH (i := 11) (by kernel_rfl) rfl rfl (fun K hK => ?_)
        go_simp
        refine hK _ _ trivial ?_
        clear hK K
        refine one_readyH (i := 12) (by kernel_rfl) rfl rfl (fun K hK => ?_)
        go_simp
        refine hK _ _ trivial ?_
        clear hK K
        refine wpAnyH_done (by kernel_rfl) ?_ _
        have HGg := hide (HGf.out.put 1 5 (w.heap.size + 1) _ _ (.slice o' (q + 1) c') rfl rfl)
        have HOg := hide (ownsRow_set HOf.out (p := ⟨w.heap.size + 1, 5, none⟩) (by simp) (.slice o' (q + 1) c'))
        go_wp2_with fail
        exact ⟨⟨q + 1, o', c', by omega, by simp, HGg, HOg⟩, by simp [intOf]; omega⟩
    · have hq3 : ¬ ((q : Int) < 3) := by omega
      obtain rfl : q = 3 := by omega
      go_wp2_with fail
      go_loopw [19] (fun j ws => ∃ (p : Nat) (ov : Option Addr) (cv : Nat), p ≤ 3 ∧ j = .int .i64 p ∧ Hid (Blks w ws [.cells #[.slice none 0 0, .slice none 0 0, .slice none 0 0, .int .i64 0, .slice none 0 0, .slice none 0 0, .slice none 0 0] 111, .cells #[.slice none 0 0, .slice none 0 0, .slice none 0 0, .int .i64 0, .slice none 0 0, .slice o 3 c, .slice ov p cv] 140]) ∧ Hid (ws.ownsRow (w.heap.size + 1 + 1) 144 8 (.slice o 3 c) 3 (cellsG newG)) ∧ Hid (ws.ownsRow (w.heap.size + 1 + 1) 106 3 (.slice ov p cv) p (cellsW (newV.take p)))) (fun j _ => 3 - (intOf j).toNat)
      case atStart => exact ⟨0, none, 0, by omega, rfl, hG, hO, World.ownsRow_nil _ _ _ _⟩
      case round =>
        obtain ⟨p, ov, cv, hp, rfl, hG2, hO2, hV2⟩ := hrel
        clear hG hO
        by_cases hgp : p < 3
        · have hp3 : (p : Int) < 3 := by omega
          have l1 := hG2.out.lt 1 (w.heap.size + 1) (by simp) rfl
          have c6 := hG2.out.cell 1 6 (w.heap.size + 1) _ _ _ rfl rfl rfl
          have f6 := hG2.out.frozen 1 6 (w.heap.size + 1) _ _ rfl rfl
          have hsz := hG2.out.2.1
          simp only [List.length_cons, List.length_nil] at hsz
          have HS : Hid (newV.take (p + 1) = newV.take p ++ [⟨0, 0, true⟩]) := by
            rcases (by omega : p = 0 ∨ p = 1 ∨ p = 2) with rfl | rfl | rfl <;> rfl
          have hba := (Below.refl wr.heap.size wr).alloc (Nat.le_refl _) (.cells #[.int .i64 0, .int .i64 0, .bool true] 106)
          have HGa := hide (hG2.out.on hba)
          have HOa := hide (ownsRow_below hO2.out hba)
          have HVa := hide (ownsRow_below hV2.out hba)
          have HN := hide (three_newV wr 106)
          clear hba
          go_wp2_with (at_builtin; refine wpList_append_own _ rfl (.tmp 23) (.tmp 25) 56 rfl (w.heap.size + 1 + 1) 106 j0 _ 3 24 Try.underlying56 ji jz0 jz1 jz2 rfl (by decide) _ p _ rfl HVa.out ⟨wr.heap.size, 0, none⟩ 1 1 [.int .i64 0, .int .i64 0, .bool true] rfl rfl HN.out (by intro u hu; simp at hu; rcases hu with rfl | rfl <;> rfl) (by unfold maxLen; omega) (by omega) (by simp; omega) ?_; intro v1 w1 hown1 hgrow1 _; obtain ⟨o', c', rfl, hx1, hx2⟩ := new_step rfl HGa.out HOa.out HVa.out hown1 hgrow1; have HGf := hide hx1; have HOf := hide hx2; have HVf := hide hown1; clear hown1 hgrow1 hx1 hx2 c6 f6 l1; have l1f := HGf.out.lt 1 (w.heap.size + 1) (by simp) rfl; have c6f := HGf.out.cell 1 6 (w.heap.size + 1) _ _ _ rfl rfl rfl; have f6f := HGf.out.frozen 1 6 (w.heap.size + 1) _ _ rfl rfl)
          rw [show cellsW (newV.take p) ++ [Value.int .i64 0, .int .i64 0, .bool true] = cellsW (newV.take (p + 1)) by rw [HS.out, cellsW_app]; rfl] at HVf
          have HGg := hide (HGf.out.put 1 6 (w.heap.size + 1) _ _ (.slice o' (p + 1) c') rfl rfl)
          have HOg := hide (ownsRow_set HOf.out (p := ⟨w.heap.size + 1, 6, none⟩) (by simp) (.slice o' (p + 1) c'))
          have HVg := hide (ownsRow_set HVf.out (p := ⟨w.heap.size + 1, 6, none⟩) (by simp) (.slice o' (p + 1) c'))
          exact ⟨⟨p + 1, o', c', by omega, by simp, HGg, HOg, HVg⟩, by simp [intOf]; omega⟩
        · have hp3 : ¬ ((p : Int) < 3) := by omega
          obtain rfl : p = 3 := by omega
          have l1 := hG2.out.lt 1 (w.heap.size + 1) (by simp) rfl
          have l0 := hG2.out.lt 0 w.heap.size (by simp) rfl
          have k0 := hG2.out.cell 1 0 (w.heap.size + 1) _ _ _ rfl rfl rfl
          have r0 := hG2.out.cell 0 0 w.heap.size _ _ _ rfl rfl rfl
          have f0 := hG2.out.frozen 0 0 w.heap.size _ _ rfl rfl
          have k1 := hG2.out.cell 1 1 (w.heap.size + 1) _ _ _ rfl rfl rfl
          have r1 := hG2.out.cell 0 1 w.heap.size _ _ _ rfl rfl rfl
          have f1 := hG2.out.frozen 0 1 w.heap.size _ _ rfl rfl
          have k2 := hG2.out.cell 1 2 (w.heap.size + 1) _ _ _ rfl rfl rfl
          have r2 := hG2.out.cell 0 2 w.heap.size _ _ _ rfl rfl rfl
          have f2 := hG2.out.frozen 0 2 w.heap.size _ _ rfl rfl
          have k3 := hG2.out.cell 1 3 (w.heap.size + 1) _ _ _ rfl rfl rfl
          have r3 := hG2.out.cell 0 3 w.heap.size _ _ _ rfl rfl rfl
          have f3 := hG2.out.frozen 0 3 w.heap.size _ _ rfl rfl
          have k4 := hG2.out.cell 1 4 (w.heap.size + 1) _ _ _ rfl rfl rfl
          have r4 := hG2.out.cell 0 4 w.heap.size _ _ _ rfl rfl rfl
          have f4 := hG2.out.frozen 0 4 w.heap.size _ _ rfl rfl
          have k5 := hG2.out.cell 1 5 (w.heap.size + 1) _ _ _ rfl rfl rfl
          have r5 := hG2.out.cell 0 5 w.heap.size _ _ _ rfl rfl rfl
          have f5 := hG2.out.frozen 0 5 w.heap.size _ _ rfl rfl
          have k6 := hG2.out.cell 1 6 (w.heap.size + 1) _ _ _ rfl rfl rfl
          have r6 := hG2.out.cell 0 6 w.heap.size _ _ _ rfl rfl rfl
          have f6 := hG2.out.frozen 0 6 w.heap.size _ _ rfl rfl
          go_wp2_with fail
          refine bodyPost_ret (v := stV none none none 0 0 0 0 0 0 0 none 0 0 o 3 c ov 3 cv) (by simp [results, Try.results70, go_sem, *]) rfl ⟨⟨o, c, ov, cv, rfl, ?_, ?_⟩, ?_⟩
          · repeat (first | with_reducible refine ownsRow_set ?_ (by simp; omega) _ | exact hO2.out)
          · repeat (first | with_reducible refine ownsRow_set ?_ (by simp; omega) _ | exact hV2.out)
          · repeat (first | with_reducible refine Below.setCell ?_ (by simp) _ | exact hG2.out.2.2)
end Go.Proofs.Ytcakfmpckbmdeae
