/-
  'with' (package denied): a list with an id more.
-/
import Derived.Test.YtcakfmpckbmdeacN4
import Derived.Test.YtcakfmpckbmdeacK4
import Derived.Test.YtcakfmpckbmdeacH1
namespace Go.Proofs.Ytcakfmpckbmdeac
open Go.RowKit

theorem dAt_set {w : World} {A : Addr} {p : Addr} {u : Value} {n : Nat} {v : Value} (hne : p.block < A.block) (h : w.cell? (A.add n) = some v) : (w.setCell p u).cell? (A.add n) = some v := by
  rw [World.cell?_setCell_other]
  · exact h
  · intro e
    have : (A.add n).block = A.block := add_block A n
    rw [← e] at this
    omega

theorem IntsV.setD {w : World} {B : Nat} {v : Value} {L : List Int} (h : IntsV w v L) (hf : Fresh B v) {p : Addr} (hp : p.block < B) (u : Value) : IntsV (w.setCell p u) v L := by
  obtain ⟨o, c, rfl, h1, h2⟩ := h
  refine ⟨o, c, rfl, fun i x hi => ?_, h2⟩
  obtain ⟨b, rfl, a0⟩ := h1 i x hi
  have hB : B ≤ b.block := hf _ rfl
  exact ⟨b, rfl, dAt_set (by omega) a0⟩

theorem Fresh.monoD {B C : Nat} {v : Value} (h : Fresh B v) (hc : C ≤ B) : Fresh C v := fun k hk => Nat.le_trans hc (h k hk)

theorem IntsAt.takeD {w : World} {o : Option Addr} {L : List Int} (h : IntsAt w o L) (n : Nat) : IntsAt w o (L.take n) := fun i p hi => by
  rw [List.getElem?_take] at hi
  split at hi
  · exact h i p hi
  · cases hi

theorem dAdd_add (A : Addr) (n m : Nat) : (A.add n).add m = A.add (n + m) := by
  by_cases h1 : n = 0
  · subst h1; simp [Addr.add]
  · by_cases h2 : m = 0
    · subst h2; simp [Addr.add]
    · simp [Addr.add, h1, h2]
      omega

theorem IntsAt.drop {w : World} {A : Addr} {L : List Int} (h : IntsAt w (some A) L) (n c : Nat) (hc : L.length ≤ c) : IntsAt w (if c = n then some A else some (A.add n)) (L.drop n) := fun i p hi => by
  rw [List.getElem?_drop] at hi
  have hlt := (List.getElem?_eq_some_iff.1 hi).1
  rw [if_neg (by omega)]
  obtain ⟨b, hb, h6⟩ := h (n + i) p hi
  cases hb
  refine ⟨_, rfl, ?_⟩
  rw [dAdd_add]
  exact h6

theorem intsAt_single {w : World} {b : Nat} {j : Int} (h : w.cell? ⟨b, 0, none⟩ = some (.int .i64 j)) : IntsAt w (some ⟨b, 0, none⟩) [j] := by
  intro i v hv
  match i, hv with
  | 0, hv =>
    simp at hv
    subst hv
    exact ⟨_, rfl, by simpa [Addr.add] using h⟩
  | i + 1, hv => simp at hv

/-- where an id that is not there would stand -/
def posI (L : List Int) (id : Int) : Nat := L.findIdx fun x => decide (id < x)
/-- ids with one more -/
def addI (L : List Int) (id : Int) : List Int := L.take (posI L id) ++ [id] ++ L.drop (posI L id)

/-- a list that lies behind a value -/
def DenV (w : World) (v : Value) (n : Int) (L : List Int) : Prop := ∃ u, v = .agg #[.int .i64 n, u] ∧ IntsV w u L
theorem DenV.below {w w' : World} {v : Value} {n : Int} {L : List Int} (h : DenV w v n L) (hb : Below w.heap.size w w') : DenV w' v n L := have ⟨u, e, h1⟩ := h; ⟨u, e, h1.below hb⟩

set_option maxHeartbeats 3200000 in
theorem with_any (v id : Int) (L : List Int) (o : Option Addr) (cap : Nat) (w : World) (hL : IntsAt w o L) (hlen : L.length ≤ 12) (hcap : L.length ≤ cap) (hnone : o = none → cap = 0) (hv : 0 ≤ v) (hv' : v ≤ 999) :
    Calls Try.prog 58 #[dn v o L.length cap, .int .i64 id] w fun e w' => (∃ u, e = .returned (.agg #[.int .i64 (v + 1), u]) ∧ IntsV w' u (addI L id) ∧ Fresh w.heap.size u) ∧ Below w.heap.size w w' := by
  have HB := hide ((((Blks.nil w).more (.cells #[.int .i64 v, .slice o L.length cap] 94) (by simp)).more (.cells #[.int .i64 id] 3) (by simp)).more (.cells #[.int .i64 0, .slice none 0 0] 45) (by simp))
  have HI := hide (fun W (h1 : IntsAt W o L) (h2 : W.cell? ⟨w.heap.size + 1, 0, none⟩ = some (.int .i64 id)) => firstW_any (w.heap.size + 1) id v L o cap W h1 (by omega) h2)
  have HL := hide hL
  have hpos : posI L id ≤ L.length := List.findIdx_le_length
  have hwrap : IntKind.i64.wrap (v + 1) = v + 1 := by simp [IntKind.wrap, IntKind.bits]; omega
  clear hL
  unfold addI
  go_enter Try.func58, Try.ntmps58
  go_wp2_with fail
  refine (HI.out _ (HL.out.below HB.out.2.2) (HB.out.cell 1 0 _ _ _ _ rfl rfl rfl)).mono ?_
  rintro e w3 ⟨rfl, hb⟩
  have HB3 := hide (HB.out.on hb)
  clear hb HB HI
  change (L.findIdx fun x => decide (id < x)) ≤ L.length at hpos
  have HP : Hid (posI L id = L.findIdx fun x => decide (id < x)) := rfl
  generalize (L.findIdx fun x => decide (id < x)) = pos at *
  go_wp2_with fail
  have hposc : pos ≤ cap := by omega
  cases o with
  | none =>
    have hL0 : L = [] := by
      cases L with
      | nil => rfl
      | cons x T => obtain ⟨b, hb, -⟩ := HL.out 0 x rfl; cases hb
    obtain rfl : cap = 0 := hnone rfl
    subst hL0
    obtain rfl : pos = 0 := by simpa using hpos
    simp only [List.length_nil] at HB3 ⊢
    refine wp_region_reads (fun w' => Blks w w' ([] ++ [.cells #[.int .i64 v, .slice none 0 0] 94] ++ [.cells #[.int .i64 id] 3])) [0, 1, 2, 3, 4, 5, 6, 7, 8, 9, 11, 12, 13, 14, 15] 5 (by rfl) (by kernel_rfl) (by kernel_rfl) (by kernel_rfl) (fun c d v a w h => by cases d <;> exact h) ?_ ?_
    · exact (HB3.out.on (Below.refl _ _).drew).sub
    refine wpPureH_step (.pointer (some ⟨w.heap.size, 0, none⟩)) rfl rfl (fun w' hS => ?_) ?_
    · have x0 := hS.cell 0 0 w.heap.size _ _ _ rfl rfl rfl
      have x1 := hS.cell 0 1 w.heap.size _ _ _ rfl rfl rfl
      have y0 := hS.cell 1 0 (w.heap.size + 1) _ _ _ rfl rfl rfl
      go_simp
      try (intro h; omega)
    refine wpPureH_step (.pointer (some ⟨w.heap.size, 0, none⟩)) rfl rfl (fun w' hS => ?_) ?_
    · have x0 := hS.cell 0 0 w.heap.size _ _ _ rfl rfl rfl
      have x1 := hS.cell 0 1 w.heap.size _ _ _ rfl rfl rfl
      have y0 := hS.cell 1 0 (w.heap.size + 1) _ _ _ rfl rfl rfl
      go_simp
      try (intro h; omega)
    refine wpPureH_step (.int .i64 v) rfl rfl (fun w' hS => ?_) ?_
    · have x0 := hS.cell 0 0 w.heap.size _ _ _ rfl rfl rfl
      have x1 := hS.cell 0 1 w.heap.size _ _ _ rfl rfl rfl
      have y0 := hS.cell 1 0 (w.heap.size + 1) _ _ _ rfl rfl rfl
      go_simp
      try (intro h; omega)
    refine wpPureH_step (.int .i64 (v + 1)) rfl rfl (fun w' hS => ?_) ?_
    · have x0 := hS.cell 0 0 w.heap.size _ _ _ rfl rfl rfl
      have x1 := hS.cell 0 1 w.heap.size _ _ _ rfl rfl rfl
      have y0 := hS.cell 1 0 (w.heap.size + 1) _ _ _ rfl rfl rfl
      go_simp
      try (intro h; omega)
    refine wpPureH_step (.pointer (some ⟨w.heap.size, 0, none⟩)) rfl rfl (fun w' hS => ?_) ?_
    · have x0 := hS.cell 0 0 w.heap.size _ _ _ rfl rfl rfl
      have x1 := hS.cell 0 1 w.heap.size _ _ _ rfl rfl rfl
      have y0 := hS.cell 1 0 (w.heap.size + 1) _ _ _ rfl rfl rfl
      go_simp
      try (intro h; omega)
    refine wpPureH_step (.pointer (some ⟨w.heap.size, 1, none⟩)) rfl rfl (fun w' hS => ?_) ?_
    · have x0 := hS.cell 0 0 w.heap.size _ _ _ rfl rfl rfl
      have x1 := hS.cell 0 1 w.heap.size _ _ _ rfl rfl rfl
      have y0 := hS.cell 1 0 (w.heap.size + 1) _ _ _ rfl rfl rfl
      go_simp
      try (intro h; omega)
    refine wpPureH_step (.slice none 0 0) rfl rfl (fun w' hS => ?_) ?_
    · have x0 := hS.cell 0 0 w.heap.size _ _ _ rfl rfl rfl
      have x1 := hS.cell 0 1 w.heap.size _ _ _ rfl rfl rfl
      have y0 := hS.cell 1 0 (w.heap.size + 1) _ _ _ rfl rfl rfl
      go_simp
      try (intro h; omega)
    refine wpPureH_step (.int .i64 0) rfl rfl (fun w' hS => ?_) ?_
    · have x0 := hS.cell 0 0 w.heap.size _ _ _ rfl rfl rfl
      have x1 := hS.cell 0 1 w.heap.size _ _ _ rfl rfl rfl
      have y0 := hS.cell 1 0 (w.heap.size + 1) _ _ _ rfl rfl rfl
      go_simp
      try (intro h; omega)
    refine wpPureH_step (.slice none 0 0) rfl rfl (fun w' hS => ?_) ?_
    · have x0 := hS.cell 0 0 w.heap.size _ _ _ rfl rfl rfl
      have x1 := hS.cell 0 1 w.heap.size _ _ _ rfl rfl rfl
      have y0 := hS.cell 1 0 (w.heap.size + 1) _ _ _ rfl rfl rfl
      go_simp
      try (intro h; omega)
    refine wpPureH_step (.int .i64 id) rfl rfl (fun w' hS => ?_) ?_
    · have x0 := hS.cell 0 0 w.heap.size _ _ _ rfl rfl rfl
      have x1 := hS.cell 0 1 w.heap.size _ _ _ rfl rfl rfl
      have y0 := hS.cell 1 0 (w.heap.size + 1) _ _ _ rfl rfl rfl
      go_simp
      try (intro h; omega)
    refine wpPureH_step (.pointer (some ⟨w.heap.size, 0, none⟩)) rfl rfl (fun w' hS => ?_) ?_
    · have x0 := hS.cell 0 0 w.heap.size _ _ _ rfl rfl rfl
      have x1 := hS.cell 0 1 w.heap.size _ _ _ rfl rfl rfl
      have y0 := hS.cell 1 0 (w.heap.size + 1) _ _ _ rfl rfl rfl
      go_simp
      try (intro h; omega)
    refine wpPureH_step (.pointer (some ⟨w.heap.size, 1, none⟩)) rfl rfl (fun w' hS => ?_) ?_
    · have x0 := hS.cell 0 0 w.heap.size _ _ _ rfl rfl rfl
      have x1 := hS.cell 0 1 w.heap.size _ _ _ rfl rfl rfl
      have y0 := hS.cell 1 0 (w.heap.size + 1) _ _ _ rfl rfl rfl
      go_simp
      try (intro h; omega)
    refine wpPureH_step (.slice none 0 0) rfl rfl (fun w' hS => ?_) ?_
    · have x0 := hS.cell 0 0 w.heap.size _ _ _ rfl rfl rfl
      have x1 := hS.cell 0 1 w.heap.size _ _ _ rfl rfl rfl
      have y0 := hS.cell 1 0 (w.heap.size + 1) _ _ _ rfl rfl rfl
      go_simp
      try (intro h; omega)
    refine wpPureH_step (.int .i64 0) rfl rfl (fun w' hS => ?_) ?_
    · have x0 := hS.cell 0 0 w.heap.size _ _ _ rfl rfl rfl
      have x1 := hS.cell 0 1 w.heap.size _ _ _ rfl rfl rfl
      have y0 := hS.cell 1 0 (w.heap.size + 1) _ _ _ rfl rfl rfl
      go_simp
      try (intro h; omega)
    refine wpPureH_step (.slice none 0 0) rfl rfl (fun w' hS => ?_) ?_
    · have x0 := hS.cell 0 0 w.heap.size _ _ _ rfl rfl rfl
      have x1 := hS.cell 0 1 w.heap.size _ _ _ rfl rfl rfl
      have y0 := hS.cell 1 0 (w.heap.size + 1) _ _ _ rfl rfl rfl
      go_simp
      try (intro h; omega)
    refine wpPureH_nil ?_
    have HBa := hide (HB3.out.on ((Below.refl w3.heap.size w3).drew))
    clear HB3
    generalize w3.drew = wa at *
    refine one_readyH (i := 10) (by kernel_rfl) rfl rfl (fun K hK => ?_)
    go_simp
    have HBb := hide (HBa.out.on ((Below.refl wa.heap.size wa).alloc (Nat.le_refl _) (.cells #[.int .i64 id] 3)))
    have HKb : Hid ((wa.alloc (.cells #[.int .i64 id] 3)).cell? ⟨wa.heap.size, 0, none⟩ = some (.int .i64 id)) := hide (by simp [go_sem])
    refine hK _ _ HBb.out.sub ?_
    clear hK K HBa
    generalize wa.alloc (.cells #[.int .i64 id] 3) = wb at *
    refine one_readyH (i := 16) (by kernel_rfl) rfl rfl (fun K hK => ?_)
    go_simp
    have hbw := (Below.refl wb.heap.size wb).alloc (Nat.le_refl _) (.cells #[.slice none 0 0, .slice (some ⟨wa.heap.size, 0, none⟩) 1 1, .slice none 0 0] 24)
    have HBc := hide (HBb.out.on hbw)
    have HPc : Hid (PiecesV (wb.alloc (.cells #[.slice none 0 0, .slice (some ⟨wa.heap.size, 0, none⟩) 1 1, .slice none 0 0] 24)) ⟨wb.heap.size, 0, none⟩ [(none, [], 0), (some ⟨wa.heap.size, 0, none⟩, [id], 1), (none, [], 0)]) := by
      have hTw := HL.out.below HBc.out.2.2
      have hT6 : (wb.alloc (.cells #[.slice none 0 0, .slice (some ⟨wa.heap.size, 0, none⟩) 1 1, .slice none 0 0] 24)).cell? ⟨wa.heap.size, 0, none⟩ = some (.int .i64 id) := by rw [hbw.cell (World.block_lt_of_cell? wb _ HKb.out)]; exact HKb.out
      intro q o L' cap' hq
      match q, hq with
      | 0, hq =>
        simp at hq
        obtain ⟨rfl, rfl, rfl⟩ := hq
        exact ⟨by simp [Addr.add, go_sem], fun i p h => by simp at h, fun _ => rfl⟩
      | 1, hq =>
        simp at hq
        obtain ⟨rfl, rfl, rfl⟩ := hq
        exact ⟨by simp [Addr.add, go_sem], intsAt_single hT6, fun h => by cases h⟩
      | 2, hq =>
        simp at hq
        obtain ⟨rfl, rfl, rfl⟩ := hq
        exact ⟨by simp [Addr.add, go_sem], fun i p h => by simp at h, fun _ => rfl⟩
      | q + 3, hq => simp at hq
    refine hK _ _ HBc.out.sub ?_
    clear hK K HBb HKb hbw
    generalize wb.alloc (.cells #[.slice none 0 0, .slice (some ⟨wa.heap.size, 0, none⟩) 1 1, .slice none 0 0] 24) = wc at *
    refine one_readyH (i := 17) (by kernel_rfl) rfl rfl (fun K hK => ?_)
    go_simp
    refine (concatV_any _ _ 3 wc HPc.out (by simp) (by simp [lenS])).mono ?_
    rintro e wd ⟨⟨v1, rfl, hv1, hf1⟩, hbd⟩
    replace hv1 : IntsV wd v1 ([id]) := by simpa using hv1
    generalize hM : [id] = M at hv1
    have HM := hide hM
    clear hM
    obtain ⟨oa, ca, rfl, ha⟩ := hv1
    have hv1 : IntsV wd (.slice oa M.length ca) M := ⟨oa, ca, rfl, ha⟩
    clear ha
    have HBd := hide (HBc.out.on hbd)
    have hsz := HBc.out.2.1
    simp only [List.length_append, List.length_cons, List.length_nil] at hsz
    have HV1 := hide (And.intro hv1 (hf1.monoD (show w.heap.size + 1 + 1 + 1 ≤ wc.heap.size by omega)))
    clear hv1 hf1 hbd HPc HBc hsz
    refine hK _ _ HBd.out.sub ?_
    clear hK K
    refine one_readyH (i := 18) (by kernel_rfl) rfl rfl (fun K hK => ?_)
    go_simp
    refine hK _ _ HBd.out.sub ?_
    clear hK K
    have r0 := HBd.out.cell 2 0 (w.heap.size + 1 + 1) _ _ _ rfl rfl rfl
    have r1 := HBd.out.cell 2 1 (w.heap.size + 1 + 1) _ _ _ rfl rfl rfl
    have s0 := HBd.out.frozen 2 0 (w.heap.size + 1 + 1) _ _ rfl rfl
    have s1 := HBd.out.frozen 2 1 (w.heap.size + 1 + 1) _ _ rfl rfl
    refine one_readyH (i := 19) (by kernel_rfl) rfl rfl (fun K hK => ?_)
    go_simp
    have HKg := hide ((HBd.out.sub.set ⟨w.heap.size + 1 + 1, 0, none⟩ (by simp) (.int .i64 (v + 1))).set ⟨w.heap.size + 1 + 1, 1, none⟩ (by simp) (.slice oa M.length ca))
    have g0 : ((wd.setCell ⟨w.heap.size + 1 + 1, 0, none⟩ (.int .i64 (v + 1))).setCell ⟨w.heap.size + 1 + 1, 1, none⟩ (.slice oa M.length ca)).cell? ⟨w.heap.size + 1 + 1, 0, none⟩ = some (.int .i64 (v + 1)) := by simp [go_sem, r0]
    have g1 : ((wd.setCell ⟨w.heap.size + 1 + 1, 0, none⟩ (.int .i64 (v + 1))).setCell ⟨w.heap.size + 1 + 1, 1, none⟩ (.slice oa M.length ca)).cell? ⟨w.heap.size + 1 + 1, 1, none⟩ = some (.slice oa M.length ca) := by simp [go_sem, r1]
    have HVg := hide ((HV1.out.1.setD HV1.out.2 (p := ⟨w.heap.size + 1 + 1, 0, none⟩) (by simp) (.int .i64 (v + 1))).setD HV1.out.2 (p := ⟨w.heap.size + 1 + 1, 1, none⟩) (by simp) (.slice oa M.length ca))
    have HF := hide (HV1.out.2.monoD (show w.heap.size ≤ w.heap.size + 1 + 1 + 1 by omega))
    refine hK _ _ HKg.out ?_
    clear hK K HV1 HBd r0 r1 s0 s1
    generalize (wd.setCell ⟨w.heap.size + 1 + 1, 0, none⟩ (.int .i64 (v + 1))).setCell ⟨w.heap.size + 1 + 1, 1, none⟩ (.slice oa M.length ca) = wg at *
    refine wpAnyH_done (by kernel_rfl) ?_ _
    go_wp2_with fail
    refine bodyPost_ret (v := .agg #[.int .i64 (v + 1), .slice oa M.length ca]) (by simp [results, Try.results58, go_sem, g0, g1]) rfl ⟨⟨_, rfl, ?_, HF.out⟩, HKg.out.2.2⟩
    have HVo := HVg.out
    rw [← HM.out] at HVo ⊢
    simpa [HP.out] using HVo
  | some A =>
    refine wp_region_reads (fun w' => Blks w w' ([] ++ [.cells #[.int .i64 v, .slice (some A) L.length cap] 94] ++ [.cells #[.int .i64 id] 3])) [0, 1, 2, 3, 4, 5, 6, 7, 8, 9, 11, 12, 13, 14, 15] 5 (by rfl) (by kernel_rfl) (by kernel_rfl) (by kernel_rfl) (fun c d v a w h => by cases d <;> exact h) ?_ ?_
    · exact (HB3.out.on (Below.refl _ _).drew).sub
    refine wpPureH_step (.pointer (some ⟨w.heap.size, 0, none⟩)) rfl rfl (fun w' hS => ?_) ?_
    · have x0 := hS.cell 0 0 w.heap.size _ _ _ rfl rfl rfl
      have x1 := hS.cell 0 1 w.heap.size _ _ _ rfl rfl rfl
      have y0 := hS.cell 1 0 (w.heap.size + 1) _ _ _ rfl rfl rfl
      go_simp
      try (intro h; omega)
    refine wpPureH_step (.pointer (some ⟨w.heap.size, 0, none⟩)) rfl rfl (fun w' hS => ?_) ?_
    · have x0 := hS.cell 0 0 w.heap.size _ _ _ rfl rfl rfl
      have x1 := hS.cell 0 1 w.heap.size _ _ _ rfl rfl rfl
      have y0 := hS.cell 1 0 (w.heap.size + 1) _ _ _ rfl rfl rfl
      go_simp
      try (intro h; omega)
    refine wpPureH_step (.int .i64 v) rfl rfl (fun w' hS => ?_) ?_
    · have x0 := hS.cell 0 0 w.heap.size _ _ _ rfl rfl rfl
      have x1 := hS.cell 0 1 w.heap.size _ _ _ rfl rfl rfl
      have y0 := hS.cell 1 0 (w.heap.size + 1) _ _ _ rfl rfl rfl
      go_simp
      try (intro h; omega)
    refine wpPureH_step (.int .i64 (v + 1)) rfl rfl (fun w' hS => ?_) ?_
    · have x0 := hS.cell 0 0 w.heap.size _ _ _ rfl rfl rfl
      have x1 := hS.cell 0 1 w.heap.size _ _ _ rfl rfl rfl
      have y0 := hS.cell 1 0 (w.heap.size + 1) _ _ _ rfl rfl rfl
      go_simp
      try (intro h; omega)
    refine wpPureH_step (.pointer (some ⟨w.heap.size, 0, none⟩)) rfl rfl (fun w' hS => ?_) ?_
    · have x0 := hS.cell 0 0 w.heap.size _ _ _ rfl rfl rfl
      have x1 := hS.cell 0 1 w.heap.size _ _ _ rfl rfl rfl
      have y0 := hS.cell 1 0 (w.heap.size + 1) _ _ _ rfl rfl rfl
      go_simp
      try (intro h; omega)
    refine wpPureH_step (.pointer (some ⟨w.heap.size, 1, none⟩)) rfl rfl (fun w' hS => ?_) ?_
    · have x0 := hS.cell 0 0 w.heap.size _ _ _ rfl rfl rfl
      have x1 := hS.cell 0 1 w.heap.size _ _ _ rfl rfl rfl
      have y0 := hS.cell 1 0 (w.heap.size + 1) _ _ _ rfl rfl rfl
      go_simp
      try (intro h; omega)
    refine wpPureH_step (.slice (some A) L.length cap) rfl rfl (fun w' hS => ?_) ?_
    · have x0 := hS.cell 0 0 w.heap.size _ _ _ rfl rfl rfl
      have x1 := hS.cell 0 1 w.heap.size _ _ _ rfl rfl rfl
      have y0 := hS.cell 1 0 (w.heap.size + 1) _ _ _ rfl rfl rfl
      go_simp
      try (intro h; omega)
    refine wpPureH_step (.int .i64 (pos : Int)) rfl rfl (fun w' hS => ?_) ?_
    · have x0 := hS.cell 0 0 w.heap.size _ _ _ rfl rfl rfl
      have x1 := hS.cell 0 1 w.heap.size _ _ _ rfl rfl rfl
      have y0 := hS.cell 1 0 (w.heap.size + 1) _ _ _ rfl rfl rfl
      go_simp
      try (intro h; omega)
    refine wpPureH_step (.slice (some A) pos cap) rfl rfl (fun w' hS => ?_) ?_
    · have x0 := hS.cell 0 0 w.heap.size _ _ _ rfl rfl rfl
      have x1 := hS.cell 0 1 w.heap.size _ _ _ rfl rfl rfl
      have y0 := hS.cell 1 0 (w.heap.size + 1) _ _ _ rfl rfl rfl
      go_simp
      try (intro h; omega)
    refine wpPureH_step (.int .i64 id) rfl rfl (fun w' hS => ?_) ?_
    · have x0 := hS.cell 0 0 w.heap.size _ _ _ rfl rfl rfl
      have x1 := hS.cell 0 1 w.heap.size _ _ _ rfl rfl rfl
      have y0 := hS.cell 1 0 (w.heap.size + 1) _ _ _ rfl rfl rfl
      go_simp
      try (intro h; omega)
    refine wpPureH_step (.pointer (some ⟨w.heap.size, 0, none⟩)) rfl rfl (fun w' hS => ?_) ?_
    · have x0 := hS.cell 0 0 w.heap.size _ _ _ rfl rfl rfl
      have x1 := hS.cell 0 1 w.heap.size _ _ _ rfl rfl rfl
      have y0 := hS.cell 1 0 (w.heap.size + 1) _ _ _ rfl rfl rfl
      go_simp
      try (intro h; omega)
    refine wpPureH_step (.pointer (some ⟨w.heap.size, 1, none⟩)) rfl rfl (fun w' hS => ?_) ?_
    · have x0 := hS.cell 0 0 w.heap.size _ _ _ rfl rfl rfl
      have x1 := hS.cell 0 1 w.heap.size _ _ _ rfl rfl rfl
      have y0 := hS.cell 1 0 (w.heap.size + 1) _ _ _ rfl rfl rfl
      go_simp
      try (intro h; omega)
    refine wpPureH_step (.slice (some A) L.length cap) rfl rfl (fun w' hS => ?_) ?_
    · have x0 := hS.cell 0 0 w.heap.size _ _ _ rfl rfl rfl
      have x1 := hS.cell 0 1 w.heap.size _ _ _ rfl rfl rfl
      have y0 := hS.cell 1 0 (w.heap.size + 1) _ _ _ rfl rfl rfl
      go_simp
      try (intro h; omega)
    refine wpPureH_step (.int .i64 (pos : Int)) rfl rfl (fun w' hS => ?_) ?_
    · have x0 := hS.cell 0 0 w.heap.size _ _ _ rfl rfl rfl
      have x1 := hS.cell 0 1 w.heap.size _ _ _ rfl rfl rfl
      have y0 := hS.cell 1 0 (w.heap.size + 1) _ _ _ rfl rfl rfl
      go_simp
      try (intro h; omega)
    refine wpPureH_step (.slice (if cap = pos then some A else some (A.add pos)) (L.length - pos) (cap - pos)) rfl rfl (fun w' hS => ?_) ?_
    · have x0 := hS.cell 0 0 w.heap.size _ _ _ rfl rfl rfl
      have x1 := hS.cell 0 1 w.heap.size _ _ _ rfl rfl rfl
      have y0 := hS.cell 1 0 (w.heap.size + 1) _ _ _ rfl rfl rfl
      go_simp
      try (intro h; omega)
    refine wpPureH_nil ?_
    have HD := hide (fun W (h : IntsAt W (some A) L) => h.drop pos cap hcap)
    have HDn : Hid ((if cap = pos then some A else some (A.add pos)) = none → cap - pos = 0) := hide (fun h => by split at h <;> cases h)
    generalize (if cap = pos then some A else some (A.add pos)) = oD at HD HDn ⊢
    have HBa := hide (HB3.out.on ((Below.refl w3.heap.size w3).drew))
    clear HB3
    generalize w3.drew = wa at *
    refine one_readyH (i := 10) (by kernel_rfl) rfl rfl (fun K hK => ?_)
    go_simp
    have HBb := hide (HBa.out.on ((Below.refl wa.heap.size wa).alloc (Nat.le_refl _) (.cells #[.int .i64 id] 3)))
    have HKb : Hid ((wa.alloc (.cells #[.int .i64 id] 3)).cell? ⟨wa.heap.size, 0, none⟩ = some (.int .i64 id)) := hide (by simp [go_sem])
    refine hK _ _ HBb.out.sub ?_
    clear hK K HBa
    generalize wa.alloc (.cells #[.int .i64 id] 3) = wb at *
    refine one_readyH (i := 16) (by kernel_rfl) rfl rfl (fun K hK => ?_)
    go_simp
    have hbw := (Below.refl wb.heap.size wb).alloc (Nat.le_refl _) (.cells #[.slice (some A) pos cap, .slice (some ⟨wa.heap.size, 0, none⟩) 1 1, .slice oD (L.length - pos) (cap - pos)] 24)
    have HBc := hide (HBb.out.on hbw)
    have HPc : Hid (PiecesV (wb.alloc (.cells #[.slice (some A) pos cap, .slice (some ⟨wa.heap.size, 0, none⟩) 1 1, .slice oD (L.length - pos) (cap - pos)] 24)) ⟨wb.heap.size, 0, none⟩ [((some A), L.take pos, cap), (some ⟨wa.heap.size, 0, none⟩, [id], 1), (oD, L.drop pos, cap - pos)]) := by
      have hTw := HL.out.below HBc.out.2.2
      have hT6 : (wb.alloc (.cells #[.slice (some A) pos cap, .slice (some ⟨wa.heap.size, 0, none⟩) 1 1, .slice oD (L.length - pos) (cap - pos)] 24)).cell? ⟨wa.heap.size, 0, none⟩ = some (.int .i64 id) := by rw [hbw.cell (World.block_lt_of_cell? wb _ HKb.out)]; exact HKb.out
      intro q o L' cap' hq
      match q, hq with
      | 0, hq =>
        simp at hq
        obtain ⟨rfl, rfl, rfl⟩ := hq
        refine ⟨?_, hTw.takeD pos, fun h => by cases h⟩
        rw [List.length_take, Nat.min_eq_left hpos]
        simp [Addr.add, go_sem]
      | 1, hq =>
        simp at hq
        obtain ⟨rfl, rfl, rfl⟩ := hq
        exact ⟨by simp [Addr.add, go_sem], intsAt_single hT6, fun h => by cases h⟩
      | 2, hq =>
        simp at hq
        obtain ⟨rfl, rfl, rfl⟩ := hq
        refine ⟨?_, HD.out _ hTw, HDn.out⟩
        rw [List.length_drop]
        simp [Addr.add, go_sem]
      | q + 3, hq => simp at hq
    refine hK _ _ HBc.out.sub ?_
    clear hK K HBb HKb hbw
    generalize wb.alloc (.cells #[.slice (some A) pos cap, .slice (some ⟨wa.heap.size, 0, none⟩) 1 1, .slice oD (L.length - pos) (cap - pos)] 24) = wc at *
    refine one_readyH (i := 17) (by kernel_rfl) rfl rfl (fun K hK => ?_)
    go_simp
    refine (concatV_any _ _ 3 wc HPc.out (by simp) (by simp [lenS]; omega)).mono ?_
    rintro e wd ⟨⟨v1, rfl, hv1, hf1⟩, hbd⟩
    replace hv1 : IntsV wd v1 (L.take pos ++ [id] ++ L.drop pos) := by simpa using hv1
    generalize hM : L.take pos ++ [id] ++ L.drop pos = M at hv1
    have HM := hide hM
    clear hM
    obtain ⟨oa, ca, rfl, ha⟩ := hv1
    have hv1 : IntsV wd (.slice oa M.length ca) M := ⟨oa, ca, rfl, ha⟩
    clear ha
    have HBd := hide (HBc.out.on hbd)
    have hsz := HBc.out.2.1
    simp only [List.length_append, List.length_cons, List.length_nil] at hsz
    have HV1 := hide (And.intro hv1 (hf1.monoD (show w.heap.size + 1 + 1 + 1 ≤ wc.heap.size by omega)))
    clear hv1 hf1 hbd HPc HBc hsz
    refine hK _ _ HBd.out.sub ?_
    clear hK K
    refine one_readyH (i := 18) (by kernel_rfl) rfl rfl (fun K hK => ?_)
    go_simp
    refine hK _ _ HBd.out.sub ?_
    clear hK K
    have r0 := HBd.out.cell 2 0 (w.heap.size + 1 + 1) _ _ _ rfl rfl rfl
    have r1 := HBd.out.cell 2 1 (w.heap.size + 1 + 1) _ _ _ rfl rfl rfl
    have s0 := HBd.out.frozen 2 0 (w.heap.size + 1 + 1) _ _ rfl rfl
    have s1 := HBd.out.frozen 2 1 (w.heap.size + 1 + 1) _ _ rfl rfl
    refine one_readyH (i := 19) (by kernel_rfl) rfl rfl (fun K hK => ?_)
    go_simp
    have HKg := hide ((HBd.out.sub.set ⟨w.heap.size + 1 + 1, 0, none⟩ (by simp) (.int .i64 (v + 1))).set ⟨w.heap.size + 1 + 1, 1, none⟩ (by simp) (.slice oa M.length ca))
    have g0 : ((wd.setCell ⟨w.heap.size + 1 + 1, 0, none⟩ (.int .i64 (v + 1))).setCell ⟨w.heap.size + 1 + 1, 1, none⟩ (.slice oa M.length ca)).cell? ⟨w.heap.size + 1 + 1, 0, none⟩ = some (.int .i64 (v + 1)) := by simp [go_sem, r0]
    have g1 : ((wd.setCell ⟨w.heap.size + 1 + 1, 0, none⟩ (.int .i64 (v + 1))).setCell ⟨w.heap.size + 1 + 1, 1, none⟩ (.slice oa M.length ca)).cell? ⟨w.heap.size + 1 + 1, 1, none⟩ = some (.slice oa M.length ca) := by simp [go_sem, r1]
    have HVg := hide ((HV1.out.1.setD HV1.out.2 (p := ⟨w.heap.size + 1 + 1, 0, none⟩) (by simp) (.int .i64 (v + 1))).setD HV1.out.2 (p := ⟨w.heap.size + 1 + 1, 1, none⟩) (by simp) (.slice oa M.length ca))
    have HF := hide (HV1.out.2.monoD (show w.heap.size ≤ w.heap.size + 1 + 1 + 1 by omega))
    refine hK _ _ HKg.out ?_
    clear hK K HV1 HBd r0 r1 s0 s1
    generalize (wd.setCell ⟨w.heap.size + 1 + 1, 0, none⟩ (.int .i64 (v + 1))).setCell ⟨w.heap.size + 1 + 1, 1, none⟩ (.slice oa M.length ca) = wg at *
    refine wpAnyH_done (by kernel_rfl) ?_ _
    go_wp2_with fail
    refine bodyPost_ret (v := .agg #[.int .i64 (v + 1), .slice oa M.length ca]) (by simp [results, Try.results58, go_sem, g0, g1]) rfl ⟨⟨_, rfl, ?_, HF.out⟩, HKg.out.2.2⟩
    have HVo := HVg.out
    rw [← HM.out] at HVo ⊢
    simpa [HP.out] using HVo
end Go.Proofs.Ytcakfmpckbmdeac
