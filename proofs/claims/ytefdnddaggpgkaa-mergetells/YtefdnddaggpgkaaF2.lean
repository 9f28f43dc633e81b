/-
  The order of taps: lists alone.
-/
import Derived.Test.YtefdnddaggpgkaaL1
import Derived.Test.YtefdnddaggpgkaaG0
import Derived.Test.YtefdnddaggpgkaaH1
import Derived.Shelf.SlSortCmp.WholeK
namespace Go.Proofs.Ytefdnddaggpgkaa
open Go.RowKit

open Go.Sort (grow alloc_eq_grow grow_grow)

theorem drop_consI {α : Type} {L : List α} {q : Nat} {x : α} (h : L[q]? = some x) : L.drop q = x :: L.drop (q + 1) := by
  obtain ⟨h1, h2⟩ := List.getElem?_eq_some_iff.1 h
  rw [List.drop_eq_getElem_cons h1, h2]

theorem or_any (o : Option Addr) (L : List Int) (cap : Nat) (w : World) (hL : IntsAt w o L) (hlen : L.length ≤ 60) :
    Calls Try.prog 68 #[.slice o L.length cap] w fun e w' => e = .returned (.int .i64 (firstE L)) ∧ w' = w := by
  have HL := hide hL
  obtain ⟨R, hR⟩ : ∃ R, R = firstE L := ⟨_, rfl⟩
  rw [← hR]
  have HR := hide hR
  clear hL hR
  go_enter Try.func68, Try.ntmps68
  go_wp2_with fail
  go_loopw [8] (fun j wr => ∃ (q : Nat), q ≤ L.length ∧ j = .int .i64 q ∧ Hid (firstE L = firstE (L.drop q)) ∧ wr = w) (fun j _ => L.length - (intOf j).toNat)
  case atStart => exact ⟨0, Nat.zero_le _, rfl, by show _ = _; simp, rfl⟩
  case round =>
    obtain ⟨q, hq, rfl, hE, hw⟩ := hrel
    obtain rfl := hw.symm
    by_cases hgo : q < L.length
    · obtain ⟨x, hx⟩ : ∃ x, L[q]? = some x := ⟨L[q], by simp [hgo]⟩
      obtain ⟨A, rfl, c0⟩ := HL.out q x hx
      have hE' := hE.out
      rw [drop_consI hx, firstE] at hE'
      clear hE hx
      by_cases h0 : x = 0
      · subst h0
        have HE := hide (show firstE L = firstE (L.drop (q + 1)) by rw [hE']; rfl)
        clear hE'
        go_wp2_with fail
        exact ⟨⟨q + 1, by omega, by simp, HE, by first | rfl | trivial⟩, by simp [intOf]; omega⟩
      · rw [if_neg h0] at hE'
        have HE := hide (show R = x by rw [HR.out, hE'])
        have h0' : (x != 0) = true := by simpa using h0
        clear hE' h0
        go_wp2_with fail
        go_ret
        exact ⟨by rw [HE.out]; rfl, rfl⟩
    · have hE' := hE.out
      rw [List.drop_of_length_le (by omega)] at hE'
      have HE := hide (show R = 0 by rw [HR.out, hE']; rfl)
      clear hE'
      go_wp2_with fail
      go_ret
      exact ⟨by rw [HE.out]; rfl, rfl⟩

/-- how two taps stand to one another -/
def riseV (p q : TP) : Int := firstE [cmpV p.m q.m, cmpV p.g q.g, cmpV p.s q.s]

set_option maxHeartbeats 3200000 in
theorem rise_any (p q : TP) (W : World) :
    Calls Try.prog 44 #[.agg #[.int .i64 p.a, .int .i64 p.g, .int .i64 p.s, .int .i64 p.m, .int .i64 p.z], .agg #[.int .i64 q.a, .int .i64 q.g, .int .i64 q.s, .int .i64 q.m, .int .i64 q.z]] W fun e w' => e = .returned (.int .i64 (riseV p q)) ∧ ∃ n os, w' = grow (W.drewN n) os := by
  have HG := hide (((Blks.nil W).more (.cells #[.int .i64 p.a, .int .i64 p.g, .int .i64 p.s, .int .i64 p.m, .int .i64 p.z] 28) (by simp)).more (.cells #[.int .i64 q.a, .int .i64 q.g, .int .i64 q.s, .int .i64 q.m, .int .i64 q.z] 28) (by simp))
  have HO := hide (fun (W' : World) (o : Option Addr) (c : Nat) (h : IntsAt W' o [cmpV p.m q.m, cmpV p.g q.g, cmpV p.s q.s]) => or_any o _ c W' h (by simp))
  rw [riseV]
  generalize hR : firstE [cmpV p.m q.m, cmpV p.g q.g, cmpV p.s q.s] = R at *
  clear hR
  go_enter Try.func44, Try.ntmps44
  go_wp2_with fail
  have HW : Hid (∃ os, (W.alloc (.cells #[.int .i64 p.a, .int .i64 p.g, .int .i64 p.s, .int .i64 p.m, .int .i64 p.z] 28)).alloc (.cells #[.int .i64 q.a, .int .i64 q.g, .int .i64 q.s, .int .i64 q.m, .int .i64 q.z] 28) = grow W os) := ⟨_, by rw [alloc_eq_grow, alloc_eq_grow, grow_grow]⟩
  generalize (W.alloc _).alloc _ = w0 at *
  refine wp_region_reads (fun w' => Blks W w' [.cells #[.int .i64 p.a, .int .i64 p.g, .int .i64 p.s, .int .i64 p.m, .int .i64 p.z] 28, .cells #[.int .i64 q.a, .int .i64 q.g, .int .i64 q.s, .int .i64 q.m, .int .i64 q.z] 28]) [0, 1, 2, 3, 5, 6, 7, 8, 10, 11, 12, 13] 6 (by rfl) (by kernel_rfl) (by kernel_rfl) (by kernel_rfl) (fun c d v a w h => by cases d <;> exact h) ?_ ?_
  · exact HG.out.on (Below.refl _ _).drew
  refine wpPureH_step (.pointer (some ⟨W.heap.size, 3, none⟩)) rfl rfl (fun w' hS => ?_) ?_
  · have k0 := hS.cell 0 3 (W.heap.size) _ _ _ rfl rfl rfl
    go_simp
  refine wpPureH_step (.int .i64 p.m) rfl rfl (fun w' hS => ?_) ?_
  · have k0 := hS.cell 0 3 (W.heap.size) _ _ _ rfl rfl rfl
    go_simp
  refine wpPureH_step (.pointer (some ⟨W.heap.size + 1, 3, none⟩)) rfl rfl (fun w' hS => ?_) ?_
  · have k0 := hS.cell 1 3 (W.heap.size + 1) _ _ _ rfl rfl rfl
    go_simp
  refine wpPureH_step (.int .i64 q.m) rfl rfl (fun w' hS => ?_) ?_
  · have k0 := hS.cell 1 3 (W.heap.size + 1) _ _ _ rfl rfl rfl
    go_simp
  refine wpPureH_step (.pointer (some ⟨W.heap.size, 1, none⟩)) rfl rfl (fun w' hS => ?_) ?_
  · have k0 := hS.cell 0 1 (W.heap.size) _ _ _ rfl rfl rfl
    go_simp
  refine wpPureH_step (.int .i64 p.g) rfl rfl (fun w' hS => ?_) ?_
  · have k0 := hS.cell 0 1 (W.heap.size) _ _ _ rfl rfl rfl
    go_simp
  refine wpPureH_step (.pointer (some ⟨W.heap.size + 1, 1, none⟩)) rfl rfl (fun w' hS => ?_) ?_
  · have k0 := hS.cell 1 1 (W.heap.size + 1) _ _ _ rfl rfl rfl
    go_simp
  refine wpPureH_step (.int .i64 q.g) rfl rfl (fun w' hS => ?_) ?_
  · have k0 := hS.cell 1 1 (W.heap.size + 1) _ _ _ rfl rfl rfl
    go_simp
  refine wpPureH_step (.pointer (some ⟨W.heap.size, 2, none⟩)) rfl rfl (fun w' hS => ?_) ?_
  · have k0 := hS.cell 0 2 (W.heap.size) _ _ _ rfl rfl rfl
    go_simp
  refine wpPureH_step (.int .i64 p.s) rfl rfl (fun w' hS => ?_) ?_
  · have k0 := hS.cell 0 2 (W.heap.size) _ _ _ rfl rfl rfl
    go_simp
  refine wpPureH_step (.pointer (some ⟨W.heap.size + 1, 2, none⟩)) rfl rfl (fun w' hS => ?_) ?_
  · have k0 := hS.cell 1 2 (W.heap.size + 1) _ _ _ rfl rfl rfl
    go_simp
  refine wpPureH_step (.int .i64 q.s) rfl rfl (fun w' hS => ?_) ?_
  · have k0 := hS.cell 1 2 (W.heap.size + 1) _ _ _ rfl rfl rfl
    go_simp
  refine wpPureH_nil ?_
  have HGd := hide (HG.out.on (Below.refl _ _).drew)
  have HWd : Hid (∃ n os, w0.drew = grow (W.drewN n) os) := by
    obtain ⟨os, e⟩ := HW.out
    exact ⟨1, os, by rw [e]; rfl⟩
  clear HG HW
  generalize World.drew _ = wa at *
  refine one_readyH (i := 4) (by kernel_rfl) rfl rfl (fun K hK => ?_)
  go_simp
  refine (compare_any p.m q.m wa).mono ?_
  rintro e w' ⟨rfl, hw'⟩
  obtain rfl := hw'.symm
  refine hK _ _ HGd.out ?_
  clear hK K
  refine one_readyH (i := 9) (by kernel_rfl) rfl rfl (fun K hK => ?_)
  go_simp
  refine (compare_any p.g q.g wa).mono ?_
  rintro e w' ⟨rfl, hw'⟩
  obtain rfl := hw'.symm
  refine hK _ _ HGd.out ?_
  clear hK K
  refine one_readyH (i := 14) (by kernel_rfl) rfl rfl (fun K hK => ?_)
  go_simp
  refine (compare_any p.s q.s wa).mono ?_
  rintro e w' ⟨rfl, hw'⟩
  obtain rfl := hw'.symm
  refine hK _ _ HGd.out ?_
  clear hK K
  generalize cmpV p.m q.m = x1 at *
  generalize cmpV p.g q.g = x2 at *
  generalize cmpV p.s q.s = x3 at *
  refine one_readyH (i := 15) (by kernel_rfl) rfl rfl (fun K hK => ?_)
  go_simp
  have HGe := hide (HGd.out.on ((Below.refl wa.heap.size wa).alloc (Nat.le_refl _) (.cells #[.int .i64 x1, .int .i64 x2, .int .i64 x3] 3)))
  refine hK _ _ HGe.out ?_
  clear hK K
  have HI : Hid (IntsAt (wa.alloc (.cells #[.int .i64 x1, .int .i64 x2, .int .i64 x3] 3)) (some ⟨wa.heap.size, 0, none⟩) [x1, x2, x3]) := by
    intro i v hi
    refine ⟨_, rfl, ?_⟩
    match i, hi with
    | 0, hi | 1, hi | 2, hi =>
      simp at hi
      subst hi
      simp [Addr.add, go_sem]
  have HWe : Hid (∃ n os, wa.alloc (.cells #[.int .i64 x1, .int .i64 x2, .int .i64 x3] 3) = grow (W.drewN n) os) := by
    obtain ⟨n, os, e⟩ := HWd.out
    exact ⟨n, _, by rw [e, alloc_eq_grow, grow_grow]⟩
  clear HGd HWd
  refine one_readyH (i := 16) (by kernel_rfl) rfl rfl (fun K hK => ?_)
  go_simp
  refine (HO.out _ _ 3 HI.out).mono ?_
  rintro e w' ⟨rfl, hw'⟩
  obtain rfl := hw'.symm
  refine hK _ _ HGe.out ?_
  clear hK K
  refine one_readyH (i := 17) (by kernel_rfl) rfl rfl (fun K hK => ?_)
  go_simp
  refine hK _ _ HGe.out ?_
  clear hK K
  refine wpAnyH_done (by kernel_rfl) ?_ _
  go_wp2_with fail
  go_ret
  exact ⟨rfl, HWe.out⟩

/-- one tap stands ahead of another one -/
def befP (p q : TP) : Prop := p.m < q.m ∨ (p.m = q.m ∧ (p.g < q.g ∨ (p.g = q.g ∧ p.s < q.s)))

instance (p q : TP) : Decidable (befP p q) := by unfold befP; infer_instance

theorem cmpV_neg (a b : Int) : cmpV a b < 0 ↔ a < b := by
  unfold cmpV
  split
  · simp; omega
  · split
    · simp; omega
    · simp; omega

theorem cmpV_zero (a b : Int) : cmpV a b = 0 ↔ a = b := by
  unfold cmpV
  split
  · simp; omega
  · split
    · simp; omega
    · simp; omega

theorem riseV_neg (p q : TP) : riseV p q < 0 ↔ befP p q := by
  unfold riseV befP
  simp only [firstE]
  have h1 := cmpV_neg p.m q.m
  have h2 := cmpV_zero p.m q.m
  have h3 := cmpV_neg p.g q.g
  have h4 := cmpV_zero p.g q.g
  have h5 := cmpV_neg p.s q.s
  have h6 := cmpV_zero p.s q.s
  generalize cmpV p.m q.m = x at *
  generalize cmpV p.g q.g = y at *
  generalize cmpV p.s q.s = z at *
  by_cases hx : x = 0
  · by_cases hy : y = 0
    · by_cases hz : z = 0
      · simp [hx, hy, hz]; omega
      · simp [hx, hy, hz]; omega
    · simp [hx, hy]; omega
  · simp [hx]; omega

theorem befP_irrefl (p : TP) : ¬ befP p p := by unfold befP; omega
theorem befP_trans {p q r : TP} (h1 : befP p q) (h2 : befP q r) : befP p r := by unfold befP at *; omega
theorem befP_asymm {p q : TP} (h1 : befP p q) (h2 : befP q p) : False := by unfold befP at *; omega
theorem befP_total {p q : TP} (h : ¬ (p.g = q.g ∧ p.s = q.s)) (h1 : ¬ befP q p) : befP p q := by unfold befP at *; omega

/-- no two taps have one number -/
def DistP (L : List TP) : Prop := L.Pairwise fun p q => ¬ (p.g = q.g ∧ p.s = q.s)

theorem DistP.perm {L M : List TP} (h : DistP L) (hp : L.Perm M) : DistP M :=
  (hp.pairwise_iff (fun h => fun e => h ⟨e.1.symm, e.2.symm⟩)).1 h

/-- taps in order -/
def Ord (L : List TP) : Prop := L.Pairwise befP

theorem Ord.eq {L M : List TP} (h1 : Ord L) (h2 : Ord M) (hp : L.Perm M) : L = M := by
  induction L generalizing M with
  | nil => exact hp.nil_eq
  | cons x L ih =>
    cases M with
    | nil => exact absurd hp.symm.nil_eq (by simp)
    | cons y M =>
      have hx : x ∈ y :: M := hp.mem_iff.1 (by simp)
      have hy : y ∈ x :: L := hp.mem_iff.2 (by simp)
      have hxy : x = y := by
        rcases List.mem_cons.1 hx with h | h
        · exact h
        · rcases List.mem_cons.1 hy with h' | h'
          · exact h'.symm
          · exact (befP_asymm ((List.pairwise_cons.1 h1).1 y h') ((List.pairwise_cons.1 h2).1 x h)).elim
      subst hxy
      rw [ih (List.pairwise_cons.1 h1).2 (List.pairwise_cons.1 h2).2 (List.Perm.cons_inv hp)]

/-- the taps of a list, in order -/
def srt (L : List TP) : List TP := L.mergeSort fun p q => !decide (befP q p)

theorem srt_perm (L : List TP) : (srt L).Perm L := List.mergeSort_perm L _

theorem srt_len (L : List TP) : (srt L).length = L.length := (srt_perm L).length_eq

theorem srt_ord {L : List TP} (h : DistP L) : Ord (srt L) := by
  have h1 : (srt L).Pairwise fun p q => (!decide (befP q p)) = true := by
    refine List.pairwise_mergeSort ?_ ?_ L
    · intro a b c h1 h2
      simp only [Bool.not_eq_true', decide_eq_false_iff_not] at *
      intro h3
      unfold befP at *
      omega
    · intro a b
      simp only [Bool.or_eq_true, Bool.not_eq_true', decide_eq_false_iff_not]
      by_cases h : befP b a
      · right; exact fun h' => befP_asymm h h'
      · left; exact h
  have h2 : DistP (srt L) := h.perm (srt_perm L).symm
  exact (h1.and h2).imp (fun {p q} ⟨h3, h4⟩ => befP_total h4 (by simpa using h3))

theorem srt_eq {L M : List TP} (hM : Ord M) (hp : M.Perm L) (hd : DistP L) : M = srt L :=
  hM.eq (srt_ord hd) (hp.trans (srt_perm L).symm)

theorem Ord.dist {L : List TP} (h : Ord L) (hd : ∀ p ∈ L, ∀ q ∈ L, befP p q → ¬ (p.g = q.g ∧ p.s = q.s)) : DistP L := by
  induction L with
  | nil => exact List.Pairwise.nil
  | cons x L ih =>
    rw [Ord, List.pairwise_cons] at h
    exact List.pairwise_cons.2 ⟨fun y hy => hd x (by simp) y (by simp [hy]) (h.1 y hy), ih h.2 (fun p hp q hq => hd p (by simp [hp]) q (by simp [hq]))⟩

end Go.Proofs.Ytefdnddaggpgkaa
