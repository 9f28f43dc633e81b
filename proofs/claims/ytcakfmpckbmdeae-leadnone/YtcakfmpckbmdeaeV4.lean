/-
  Views: 'newest', 'most' (package lead).
-/
import Derived.Test.YtcakfmpckbmdeaeV3
import Derived.Test.YtcakfmpckbmdeaeH1
import Derived.Deep.CutRange
import Derived.Deep.CutBlock
namespace Go.Proofs.Ytcakfmpckbmdeae
open Go.RowKit

set_option maxRecDepth 100000 in
theorem newest1_any (v x : VW) (w : World) (h : 0 ≤ v.e ∧ v.e ≤ 99 ∧ 0 ≤ x.e ∧ x.e ≤ 99) :
    Calls Try.prog 100 #[vwV v.e v.l v.u, vwV x.e x.l x.u] w fun e w' => e = .returned (.int .i64 (v.e - x.e)) ∧ Below w.heap.size w w' := by
  have hw : IntKind.i64.wrap (v.e - x.e) = v.e - x.e := by rw [IntKind.wrap_i64]; omega
  clear h
  go_enter Try.func100, Try.ntmps100
  go_wp2_with fail
  go_ret
  exact ⟨rfl, ((Below.refl _ _).alloc (Nat.le_refl _) _).alloc (by simp) _⟩

theorem topW_snoc (L : List VW) (p : VW) (h : L ≠ []) : topW (L ++ [p]) = if (topW L).e < p.e then p else topW L := by
  cases L with
  | nil => exact absurd rfl h
  | cons x r =>
    show List.foldl _ x (r ++ [p]) = _
    rw [List.foldl_append]
    rfl

theorem topW_mem (L : List VW) (h : L ≠ []) : topW L ∈ L := by
  cases L with
  | nil => exact absurd rfl h
  | cons x r =>
    show List.foldl _ x r ∈ x :: r
    clear h
    induction r generalizing x with
    | nil => simp
    | cons y r ih =>
      rw [List.foldl_cons]
      split
      · exact List.mem_cons_of_mem _ (ih y)
      · have := ih x
        rw [List.mem_cons] at this
        rcases this with h | h
        · rw [h]; simp
        · exact List.mem_cons_of_mem _ (List.mem_cons_of_mem _ h)

set_option maxHeartbeats 3200000 in
set_option maxRecDepth 100000 in
theorem maxW_any (o : Option Addr) (cap : Nat) (L : List VW) (w : World) (hL : VwsAt w o L) (hlen : L.length ≤ 60) (h0 : 0 < L.length) (hr : ∀ p ∈ L, 0 ≤ p.e ∧ p.e ≤ 99) :
    Calls Try.prog 99 #[.slice o L.length cap, .func (.func 100) #[] #[]] w fun e w' => e = .returned (vwV (topW L).e (topW L).l (topW L).u) ∧ Below w.heap.size w w' := by
  have HL := hide hL
  have HR := hide hr
  obtain ⟨x, hx⟩ : ∃ x, L[0]? = some x := ⟨L[0], by simp [h0]⟩
  obtain ⟨A, rfl, x0, x1, x2⟩ := hL 0 x hx
  have HX : Hid (topW (L.take 1) = x) := by
    show _ = _
    rw [show L.take 1 = [x] by rw [List.take_one]; cases L <;> simp_all]
    rfl
  have e0 : A.add (0 * 3) = A := by simp [Addr.add]
  rw [e0] at x0 x1 x2
  have h1 : ¬ ((L.length : Int) < 1) := by omega
  have h1' : decide ((L.length : Int) < 1) = false := by simpa using h1
  have hlt := World.block_lt_of_cell? w _ x0
  clear hL hr hx e0
  go_enter Try.func99, Try.ntmps99
  go_wp2_with fail
  have HG := hide (((Blks.nil w).more (.cells #[.int .i64 0, .int .i64 0, .bool false] 106) (by simp)).more (.cells #[.int .i64 x.e, .int .i64 x.l, .bool x.u] 106) (by simp))
  clear x0 x1 x2
  go_loopw [6] (fun j wr => ∃ (q : Nat) (m : VW), 1 ≤ q ∧ q ≤ L.length ∧ j = .int .i64 q ∧ Hid (topW (L.take q) = m) ∧ Hid (Blks w wr [.cells #[.int .i64 0, .int .i64 0, .bool false] 106, .cells #[.int .i64 m.e, .int .i64 m.l, .bool m.u] 106])) (fun j _ => L.length - (intOf j).toNat)
  case atStart => exact ⟨1, x, Nat.le_refl _, by omega, rfl, HX, HG.out⟩
  case round =>
    obtain ⟨q, m, hq1, hq, rfl, hM, hG⟩ := hrel
    have l1 := hG.out.lt 1 (w.heap.size + 1) (by simp) rfl
    have c10 := hG.out.cell 1 0 (w.heap.size + 1) _ _ _ rfl rfl rfl
    have f10 := hG.out.frozen 1 0 (w.heap.size + 1) _ _ rfl rfl
    have c11 := hG.out.cell 1 1 (w.heap.size + 1) _ _ _ rfl rfl rfl
    have f11 := hG.out.frozen 1 1 (w.heap.size + 1) _ _ rfl rfl
    have c12 := hG.out.cell 1 2 (w.heap.size + 1) _ _ _ rfl rfl rfl
    have f12 := hG.out.frozen 1 2 (w.heap.size + 1) _ _ rfl rfl
    have l0 := hG.out.lt 0 w.heap.size (by simp) rfl
    have c00 := hG.out.cell 0 0 w.heap.size _ _ _ rfl rfl rfl
    have f00 := hG.out.frozen 0 0 w.heap.size _ _ rfl rfl
    have c01 := hG.out.cell 0 1 w.heap.size _ _ _ rfl rfl rfl
    have f01 := hG.out.frozen 0 1 w.heap.size _ _ rfl rfl
    have c02 := hG.out.cell 0 2 w.heap.size _ _ _ rfl rfl rfl
    have f02 := hG.out.frozen 0 2 w.heap.size _ _ rfl rfl
    by_cases hgo : q < L.length
    · obtain ⟨p, hp⟩ : ∃ p, L[q]? = some p := ⟨L[q], by simp [hgo]⟩
      have hgI : (q : Int) < (L.length : Int) := by omega
      have hV := (HL.out.below hG.out.2.2) q p hp
      obtain ⟨A', eA, hV⟩ := hV
      cases eA
      have HV := hide hV
      have HS : Hid (topW (L.take (q + 1)) = if m.e < p.e then p else m) := by
        show _ = _
        rw [List.take_add_one, hp, Option.toList_some, topW_snoc _ _ (by intro h; have := congrArg List.length h; rw [List.length_take] at this; simp only [List.length_nil] at this; omega), hM.out]
      have HRm : Hid (0 ≤ p.e ∧ p.e ≤ 99 ∧ 0 ≤ m.e ∧ m.e ≤ 99) := by
        have h1 := HR.out p (List.mem_of_getElem? hp)
        have h2 := HR.out m (by rw [← hM.out]; exact List.mem_of_mem_take (topW_mem _ (by intro h; have := congrArg List.length h; rw [List.length_take] at this; simp only [List.length_nil] at this; omega)))
        exact ⟨h1.1, h1.2, h2.1, h2.2⟩
      have HC := hide (fun W => newest1_any p m W HRm.out)
      have hD : m.e < p.e ↔ 0 < p.e - m.e := by omega
      generalize p.e - m.e = D at HC hD
      have HD := hide hD
      clear hp hV hD
      go_wp2_with fail
      refine wp_region_reads (fun w' => Blks w w' [.cells #[.int .i64 0, .int .i64 0, .bool false] 106, .cells #[.int .i64 m.e, .int .i64 m.l, .bool m.u] 106] ∧ Vw3 w' (A.add (q * 3)) p) [0, 1, 2, 3, 4, 5] 2 (by rfl) (by kernel_rfl) (by kernel_rfl) (by kernel_rfl) (fun c d v a w h => by cases d <;> exact h) ?_ ?_
      · exact ⟨hG.out.on (Below.refl _ _).drew, HV.out.below (Below.refl _ _).drew HV.out.lt⟩
      refine wpPureH_step (.func (.func 100) #[] #[]) rfl rfl (fun w' hS => ?_) ?_
      · obtain ⟨hS1, y0, y1, y2⟩ := hS
        have k0 := hS1.cell 1 0 (w.heap.size + 1) _ _ _ rfl rfl rfl
        have k1 := hS1.cell 1 1 (w.heap.size + 1) _ _ _ rfl rfl rfl
        have k2 := hS1.cell 1 2 (w.heap.size + 1) _ _ _ rfl rfl rfl
        go_simp
        try omega
      refine wpPureH_step (.slice (some A) L.length cap) rfl rfl (fun w' hS => ?_) ?_
      · obtain ⟨hS1, y0, y1, y2⟩ := hS
        have k0 := hS1.cell 1 0 (w.heap.size + 1) _ _ _ rfl rfl rfl
        have k1 := hS1.cell 1 1 (w.heap.size + 1) _ _ _ rfl rfl rfl
        have k2 := hS1.cell 1 2 (w.heap.size + 1) _ _ _ rfl rfl rfl
        go_simp
        try omega
      refine wpPureH_step (.int .i64 (q : Int)) rfl rfl (fun w' hS => ?_) ?_
      · obtain ⟨hS1, y0, y1, y2⟩ := hS
        have k0 := hS1.cell 1 0 (w.heap.size + 1) _ _ _ rfl rfl rfl
        have k1 := hS1.cell 1 1 (w.heap.size + 1) _ _ _ rfl rfl rfl
        have k2 := hS1.cell 1 2 (w.heap.size + 1) _ _ _ rfl rfl rfl
        go_simp
        try omega
      refine wpPureH_step (.pointer (some (A.add (q * 3)))) rfl rfl (fun w' hS => ?_) ?_
      · obtain ⟨hS1, y0, y1, y2⟩ := hS
        have k0 := hS1.cell 1 0 (w.heap.size + 1) _ _ _ rfl rfl rfl
        have k1 := hS1.cell 1 1 (w.heap.size + 1) _ _ _ rfl rfl rfl
        have k2 := hS1.cell 1 2 (w.heap.size + 1) _ _ _ rfl rfl rfl
        go_simp
        try omega
      refine wpPureH_step (vwV p.e p.l p.u) rfl rfl (fun w' hS => ?_) ?_
      · obtain ⟨hS1, y0, y1, y2⟩ := hS
        have k0 := hS1.cell 1 0 (w.heap.size + 1) _ _ _ rfl rfl rfl
        have k1 := hS1.cell 1 1 (w.heap.size + 1) _ _ _ rfl rfl rfl
        have k2 := hS1.cell 1 2 (w.heap.size + 1) _ _ _ rfl rfl rfl
        go_simp
        try omega
      refine wpPureH_step (vwV m.e m.l m.u) rfl rfl (fun w' hS => ?_) ?_
      · obtain ⟨hS1, y0, y1, y2⟩ := hS
        have k0 := hS1.cell 1 0 (w.heap.size + 1) _ _ _ rfl rfl rfl
        have k1 := hS1.cell 1 1 (w.heap.size + 1) _ _ _ rfl rfl rfl
        have k2 := hS1.cell 1 2 (w.heap.size + 1) _ _ _ rfl rfl rfl
        go_simp
        try omega
      refine wpPureH_nil ?_
      have hGd := hG.out.on (Below.refl _ _).drew
      have HGd := hide (And.intro hGd (HV.out.below (Below.refl _ _).drew HV.out.lt))
      clear hGd l1 c10 f10 c11 f11 c12 f12 l0 c00 f00 c01 f01 c02 f02 HV hG
      generalize World.drew _ = wa at *
      refine one_readyH (i := 6) (by kernel_rfl) rfl rfl (fun K hK => ?_)
      go_simp
      refine (HC.out wa).mono ?_
      rintro e wb ⟨rfl, hb⟩
      have HGb := hide (And.intro (HGd.out.1.on hb) (HGd.out.2.below hb HGd.out.2.lt))
      clear hb HGd
      refine hK _ _ HGb.out ?_
      clear hK K
      refine one_readyH (i := 7) (by kernel_rfl) rfl rfl (fun K hK => ?_)
      go_simp
      refine hK _ _ HGb.out ?_
      clear hK K
      refine wpAnyH_done (by kernel_rfl) ?_ _
      have l1 := HGb.out.1.lt 1 (w.heap.size + 1) (by simp) rfl
      have c10 := HGb.out.1.cell 1 0 (w.heap.size + 1) _ _ _ rfl rfl rfl
      have f10 := HGb.out.1.frozen 1 0 (w.heap.size + 1) _ _ rfl rfl
      have c11 := HGb.out.1.cell 1 1 (w.heap.size + 1) _ _ _ rfl rfl rfl
      have f11 := HGb.out.1.frozen 1 1 (w.heap.size + 1) _ _ rfl rfl
      have c12 := HGb.out.1.cell 1 2 (w.heap.size + 1) _ _ _ rfl rfl rfl
      have f12 := HGb.out.1.frozen 1 2 (w.heap.size + 1) _ _ rfl rfl
      obtain ⟨y0, y1, y2⟩ := HGb.out.2
      by_cases hmp : 0 < D
      · have HS' := hide (show topW (L.take (q + 1)) = p by rw [HS.out, if_pos (HD.out.2 hmp)])
        have HP := hide ((((HGb.out.1.put 1 0 (w.heap.size + 1) _ _ (.int .i64 p.e) rfl rfl).put 1 1 (w.heap.size + 1) _ _ (.int .i64 p.l) rfl rfl).put 1 2 (w.heap.size + 1) _ _ (.bool p.u) rfl rfl))
        go_wp2_with fail
        exact ⟨⟨q + 1, p, by omega, by omega, by simp, HS', HP.out⟩, by simp [intOf]; omega⟩
      · have HS' := hide (show topW (L.take (q + 1)) = m by rw [HS.out, if_neg (fun h => hmp (HD.out.1 h))])
        go_wp2_with fail
        exact ⟨⟨q + 1, m, by omega, by omega, by simp, HS', HGb.out.1⟩, by simp [intOf]; omega⟩
    · have hgI : ¬ ((q : Int) < (L.length : Int)) := by omega
      have hM' := hM.out
      rw [List.take_of_length_le (by omega)] at hM'
      have HM := hide hM'
      clear hM' hM
      go_wp2_with fail
      refine bodyPost_ret (v := vwV m.e m.l m.u) (by simp [results, Try.results99, go_sem, *]) rfl ⟨by rw [HM.out], ?_⟩
      repeat (first | with_reducible refine Below.setCell ?_ (by simp; try omega) _ | exact hG.out.2.2)

set_option maxHeartbeats 1600000 in
set_option maxRecDepth 100000 in
theorem newest_any (o : Option Addr) (cap : Nat) (L : List VW) (w : World) (hL : VwsAt w o L) (hlen : L.length ≤ 60) (h0 : 0 < L.length) (hr : ∀ p ∈ L, 0 ≤ p.e ∧ p.e ≤ 99) :
    Calls Try.prog 74 #[.slice o L.length cap] w fun e w' => e = .returned (vwV (topW L).e (topW L).l (topW L).u) ∧ Below w.heap.size w w' := by
  have HG := hide ((Blks.nil w).more (.cells #[.int .i64 0, .int .i64 0, .bool false] 106) (by simp))
  have HC := hide (maxW_any o cap L _ (hL.below HG.out.2.2) hlen h0 hr)
  clear hL hr
  generalize topW L = m at *
  go_enter Try.func74, Try.ntmps74
  go_wp2_with fail
  refine HC.out.mono ?_
  rintro e w1 ⟨rfl, hb⟩
  have HG1 := hide (HG.out.on hb)
  clear hb HG
  have l0 := HG1.out.lt 0 w.heap.size (by simp) rfl
  have c00 := HG1.out.cell 0 0 w.heap.size _ _ _ rfl rfl rfl
  have f00 := HG1.out.frozen 0 0 w.heap.size _ _ rfl rfl
  have c01 := HG1.out.cell 0 1 w.heap.size _ _ _ rfl rfl rfl
  have f01 := HG1.out.frozen 0 1 w.heap.size _ _ rfl rfl
  have c02 := HG1.out.cell 0 2 w.heap.size _ _ _ rfl rfl rfl
  have f02 := HG1.out.frozen 0 2 w.heap.size _ _ rfl rfl
  go_wp2_with fail
  refine bodyPost_ret (v := vwV m.e m.l m.u) (by simp [results, Try.results74, go_sem, *]) rfl ⟨rfl, ?_⟩
  repeat (first | with_reducible refine Below.setCell ?_ (by simp; try omega) _ | exact HG1.out.2.2)

set_option maxRecDepth 100000 in
theorem now1_any (x : VW) (B : Nat) (e l : Int) (u : Bool) (w : World) (hc0 : w.cell? ⟨B, 0, none⟩ = some (.int .i64 x.e)) :
    Calls Try.prog 76 #[vwV e l u, .pointer (some ⟨B, 0, none⟩)] w fun y w' => y = .returned (.bool (lastG x ⟨e, l, u⟩)) ∧ Below w.heap.size w w' := by
  have hlt := World.block_lt_of_cell? w ⟨B, 0, none⟩ hc0
  obtain ⟨xe, xl, xu⟩ := x
  simp only [lastG]
  simp only [] at hc0
  cases u
  all_goals
    go_enter Try.func76, Try.ntmps76
    go_wp2_with fail
    go_ret
    exact ⟨by simp, (Below.refl _ _).alloc (Nat.le_refl _) _⟩

set_option maxRecDepth 100000 in
theorem win1_any (e l : Int) (u : Bool) (w : World) :
    Calls Try.prog 73 #[vwV e l u] w fun y w' => y = .returned (.bool (upG ⟨e, l, u⟩)) ∧ Below w.heap.size w w' := by
  go_enter Try.func73, Try.ntmps73
  go_wp2_with fail
  go_ret
  exact ⟨rfl, (Below.refl _ _).alloc (Nat.le_refl _) _⟩

set_option maxHeartbeats 1600000 in
set_option maxRecDepth 100000 in
theorem mostN_any (x : VW) (B : Nat) (o : Option Addr) (cap : Nat) (L : List VW) (w : World) (hL : VwsAt w o L) (hlen : L.length ≤ 60) (hc0 : w.cell? ⟨B, 0, none⟩ = some (.int .i64 x.e)) :
    Calls Try.prog 72 #[.slice o L.length cap, .func (.func 76) #[] #[.pointer (some ⟨B, 0, none⟩)]] w fun e w' => e = .returned (.bool (mostW (lastG x) L)) ∧ Below w.heap.size w w' := by
  have HL := hide hL
  have HI := hide (fun (p : VW) (W : World) (hb : Below w.heap.size w W) => now1_any x B p.e p.l p.u W (by rw [hb.cell (p := ⟨B, 0, none⟩) (World.block_lt_of_cell? w ⟨B, 0, none⟩ hc0)]; exact hc0))
  clear hL hc0
  obtain ⟨R, hR⟩ : ∃ R, mostW (lastG x) L = R := ⟨_, rfl⟩
  rw [hR]
  rw [mostW] at hR
  have HR := hide hR
  clear hR
  generalize (lastG x) = g at *
  go_enter Try.func72, Try.ntmps72
  go_wp2_with fail
  go_loopw [5, 10] (fun n j wr => ∃ (q k : Nat), q ≤ L.length ∧ k ≤ q ∧ j = .int .i64 q ∧ n = .int .i64 k ∧ Hid (k = (L.take q).countP g) ∧ Below w.heap.size w wr) (fun _ j _ => L.length - (intOf j).toNat)
  case atStart => exact ⟨0, 0, Nat.zero_le _, Nat.le_refl _, rfl, rfl, by show _ = _; simp, Below.refl _ _⟩
  case round =>
    obtain ⟨q, k, hq, hk, rfl, rfl, hF, hbr⟩ := hrel
    by_cases hgo : q < L.length
    · obtain ⟨p, hp⟩ : ∃ p, L[q]? = some p := ⟨L[q], by simp [hgo]⟩
      have HS : Hid ((L.take (q + 1)).countP g = k + if g p = true then 1 else 0) := by
        show _ = _
        rw [List.take_add_one, hp, Option.toList_some, List.countP_append, ← hF.out]
        simp [List.countP_cons]
      obtain ⟨A, rfl, c0, c1, c2⟩ := (HL.out.below hbr) q p hp
      have HC := hide (HI.out p (wr.alloc (.cells #[.int .i64 p.e, .int .i64 p.l, .bool p.u] 106)) (hbr.alloc hbr.size _))
      have HW := hide hbr
      clear hp hF hbr
      go_wp2_with fail
      refine HC.out.mono ?_
      rintro e w3 ⟨rfl, hb3⟩
      have HB := hide (HW.out.trans ((Below.alloc (Below.refl wr.heap.size wr) (Nat.le_refl _) (.cells #[.int .i64 p.e, .int .i64 p.l, .bool p.u] 106)).trans (hb3.mono (by simp)) |>.mono HW.out.size))
      clear hb3 HC HW
      cases hx : g p
      · rw [hx] at HS
        have HS' := hide (show k = (L.take (q + 1)).countP g by rw [HS.out]; simp)
        clear HS
        go_wp2_with fail
        exact ⟨⟨q + 1, k, by omega, by omega, by simp, rfl, HS', HB.out⟩, by simp [intOf]; omega⟩
      · rw [hx] at HS
        have HS' := hide (show k + 1 = (L.take (q + 1)).countP g by rw [HS.out]; simp)
        clear HS
        go_wp2_with fail
        exact ⟨⟨q + 1, k + 1, by omega, by omega, by simp, by simp, HS', HB.out⟩, by simp [intOf]; omega⟩
    · have h1 := hF.out
      rw [List.take_of_length_le (by omega)] at h1
      have HR' := hide (show R = decide (3 < 2 * (k : Int)) by rw [← HR.out, ← h1])
      clear h1 hF HR
      go_wp2_with fail
      go_ret
      exact ⟨by rw [HR'.out]; rfl, hbr⟩

set_option maxHeartbeats 1600000 in
set_option maxRecDepth 100000 in
theorem mostU_any (o : Option Addr) (cap : Nat) (L : List VW) (w : World) (hL : VwsAt w o L) (hlen : L.length ≤ 60) :
    Calls Try.prog 72 #[.slice o L.length cap, .func (.func 73) #[] #[]] w fun e w' => e = .returned (.bool (mostW upG L)) ∧ Below w.heap.size w w' := by
  have HL := hide hL
  have HI := hide (fun (p : VW) (W : World) (_ : Below w.heap.size w W) => win1_any p.e p.l p.u W)
  clear hL
  obtain ⟨R, hR⟩ : ∃ R, mostW upG L = R := ⟨_, rfl⟩
  rw [hR]
  rw [mostW] at hR
  have HR := hide hR
  clear hR
  generalize upG = g at *
  go_enter Try.func72, Try.ntmps72
  go_wp2_with fail
  go_loopw [5, 10] (fun n j wr => ∃ (q k : Nat), q ≤ L.length ∧ k ≤ q ∧ j = .int .i64 q ∧ n = .int .i64 k ∧ Hid (k = (L.take q).countP g) ∧ Below w.heap.size w wr) (fun _ j _ => L.length - (intOf j).toNat)
  case atStart => exact ⟨0, 0, Nat.zero_le _, Nat.le_refl _, rfl, rfl, by show _ = _; simp, Below.refl _ _⟩
  case round =>
    obtain ⟨q, k, hq, hk, rfl, rfl, hF, hbr⟩ := hrel
    by_cases hgo : q < L.length
    · obtain ⟨p, hp⟩ : ∃ p, L[q]? = some p := ⟨L[q], by simp [hgo]⟩
      have HS : Hid ((L.take (q + 1)).countP g = k + if g p = true then 1 else 0) := by
        show _ = _
        rw [List.take_add_one, hp, Option.toList_some, List.countP_append, ← hF.out]
        simp [List.countP_cons]
      obtain ⟨A, rfl, c0, c1, c2⟩ := (HL.out.below hbr) q p hp
      have HC := hide (HI.out p (wr.alloc (.cells #[.int .i64 p.e, .int .i64 p.l, .bool p.u] 106)) (hbr.alloc hbr.size _))
      have HW := hide hbr
      clear hp hF hbr
      go_wp2_with fail
      refine HC.out.mono ?_
      rintro e w3 ⟨rfl, hb3⟩
      have HB := hide (HW.out.trans ((Below.alloc (Below.refl wr.heap.size wr) (Nat.le_refl _) (.cells #[.int .i64 p.e, .int .i64 p.l, .bool p.u] 106)).trans (hb3.mono (by simp)) |>.mono HW.out.size))
      clear hb3 HC HW
      cases hx : g p
      · rw [hx] at HS
        have HS' := hide (show k = (L.take (q + 1)).countP g by rw [HS.out]; simp)
        clear HS
        go_wp2_with fail
        exact ⟨⟨q + 1, k, by omega, by omega, by simp, rfl, HS', HB.out⟩, by simp [intOf]; omega⟩
      · rw [hx] at HS
        have HS' := hide (show k + 1 = (L.take (q + 1)).countP g by rw [HS.out]; simp)
        clear HS
        go_wp2_with fail
        exact ⟨⟨q + 1, k + 1, by omega, by omega, by simp, by simp, HS', HB.out⟩, by simp [intOf]; omega⟩
    · have h1 := hF.out
      rw [List.take_of_length_le (by omega)] at h1
      have HR' := hide (show R = decide (3 < 2 * (k : Int)) by rw [← HR.out, ← h1])
      clear h1 hF HR
      go_wp2_with fail
      go_ret
      exact ⟨by rw [HR'.out]; rfl, hbr⟩
end Go.Proofs.Ytcakfmpckbmdeae
