/-
  'DenyOf' (the document's answer).
-/
import Derived.Test.YtcakfmpckbmdeacN11
import Derived.Laws.OwnMore
namespace Go.Proofs.Ytcakfmpckbmdeac
open Go.RowKit

/-- what the document says of an id that is to be added to a list that is right -/
theorem addE_of {v : Int} {L : List Int} (h : chkD v L = 0) (id : Int) : addE v L id = if wi id 1 9999 = false then 3 else if hasI L id = true then 6 else if fullD v L = true then 2 else 0 := by
  rw [addE, unfD_of h]
  cases wi id 1 9999 <;> simp

theorem own_addr (g k : Nat) : (⟨g, 0, none⟩ : Addr).add k = ⟨g, k, none⟩ := by
  by_cases h : k = 0
  · subst h; simp [Addr.add]
  · simp [Addr.add, h]

theorem swap_list (L : List Int) (id x : Int) (k : Nat) (hk : L[k]? = some x) : ((cellsV (L.take (k + 1) ++ [id] ++ L.drop (k + 1))).set (k + 1) (.int .i64 x)).set k (.int .i64 id) = cellsV (L.take k ++ [id] ++ L.drop k) := by
  have hlt := (List.getElem?_eq_some_iff.1 hk).1
  have h1 : L.take (k + 1) = L.take k ++ [x] := by rw [List.take_add_one, hk]; rfl
  have h2 : L.drop k = x :: L.drop (k + 1) := drop_cons hk
  have hl : (L.take k).length = k := by rw [List.length_take]; omega
  rw [h1, h2]
  simp only [cellsV, List.map_append, List.map_cons, List.map_nil, List.append_assoc, List.singleton_append]
  generalize hA : (L.take k).map (fun n => Value.int .i64 n) = A
  have hA' : A.length = k := by rw [← hA, List.length_map, hl]
  generalize (L.drop (k + 1)).map (fun n => Value.int .i64 n) = B
  subst hA'
  rw [List.set_append_right _ _ (by omega), List.set_append_right _ _ (by omega)]
  simp

theorem posI_at {L : List Int} {id : Int} {q : Nat} (hq : q ≤ L.length) (h1 : ∀ j y, j < q → L[j]? = some y → y ≤ id) (h2 : ∀ y, L[q]? = some y → id < y) : posI L id = q := by
  rcases Nat.lt_or_ge q L.length with hlt | hge
  · obtain ⟨x, hx⟩ : ∃ x, L[q]? = some x := ⟨L[q], by simp [hlt]⟩
    exact findIdx_at (g := fun x => decide (id < x)) (fun j y hj hy => decide_eq_false (by have := h1 j y hj hy; omega)) hx (decide_eq_true (h2 x hx))
  · obtain rfl : q = L.length := by omega
    exact findIdx_none (g := fun x => decide (id < x)) (fun j y hj hy => decide_eq_false (by have := h1 j y hj hy; omega))

theorem errD_rise {l : Int} {L : List Int} (h : errD l L = 0) : (∀ x ∈ L, l < x) ∧ L.Pairwise (· < ·) := by
  induction L generalizing l with
  | nil => simp
  | cons x L ih =>
    rw [errD_zero_cons] at h
    obtain ⟨i1, i2⟩ := ih h.2.2
    refine ⟨fun y hy => ?_, List.pairwise_cons.2 ⟨i1, i2⟩⟩
    rcases List.mem_cons.1 hy with rfl | hy
    · exact h.2.1
    · have := i1 y hy
      omega

theorem errD_le {L : List Int} (h : errD 0 L = 0) {j k : Nat} {x y : Int} (hj : L[j]? = some x) (hk : L[k]? = some y) (hjk : j ≤ k) : x ≤ y := by
  have hp := (errD_rise h).2
  rw [List.pairwise_iff_getElem] at hp
  obtain ⟨a1, a2⟩ := List.getElem?_eq_some_iff.1 hj
  obtain ⟨b1, b2⟩ := List.getElem?_eq_some_iff.1 hk
  rcases Nat.lt_or_ge j k with hlt | hge
  · have := hp j k a1 b1 hlt
    omega
  · obtain rfl : j = k := by omega
    rw [hj] at hk
    cases hk
    omega

theorem own_form {w : World} {base n : Nat} {v : Value} {xs : List Value} (h : w.ownsRow base 3 1 v n xs) (hn : 0 < n) : ∃ g c, v = .slice (some ⟨g, 0, none⟩) n c ∧ base ≤ g ∧ n ≤ c := by
  have hl := h.lt
  rcases h.2 with ⟨-, h0⟩ | ⟨g, c, cur, rfl, h1, h2, h3, h4⟩
  · omega
  · exact ⟨g, c, rfl, (hl g rfl).1, h3⟩

set_option maxHeartbeats 3200000 in
set_option maxRecDepth 100000 in
theorem denyOf_ok (v id : Int) (L : List Int) (o : Option Addr) (cap : Nat) (w : World) (hL : IntsAt w o L) (hn : o = none → cap = 0) (hE : addE v L id = 0) :
    Calls Try.prog 20 #[dn v o L.length cap, .int .i64 id] w fun e w' => (∃ o' c', e = .returned (.tuple #[dn (v + 1) o' (addI L id).length c', .int .i64 0]) ∧ IntsV w' (.slice o' (addI L id).length c') (addI L id) ∧ Fresh w.heap.size (.slice o' (addI L id).length c')) ∧ Below w.heap.size w w' := by
  obtain ⟨i0, hi, hz0, hz1, hz2⟩ := info_parts info3
  obtain ⟨hc, hw, hh, hl, hv⟩ := addE_right hE
  obtain ⟨v0, -, -, hr, -⟩ := chkD_right hc
  have HR := hide hr
  have HB := hide (((Blks.nil w).more (.cells #[.int .i64 v, .slice o L.length cap] 45) (by simp)).more (.cells #[.int .i64 0, .slice none 0 0] 45) (by simp))
  have HI := hide (fun W (h : IntsAt W o L) => hasInt_any L id o cap W h (by omega))
  rw [hh] at HI
  have f1 : ((L.length : Int) == 12) = false := by simpa using (show ¬ (L.length : Int) = 12 by omega)
  have f2 : (v == 999) = false := by simpa using (show ¬ v = 999 by omega)
  have HL := hide hL
  have HO : Hid (World.ownsRow (((w.alloc (.cells #[.int .i64 v, .slice o L.length cap] 45)).alloc (.cells #[.int .i64 0, .slice none 0 0] 45)).alloc (.cells #[] 3)) (w.heap.size + 1 + 1) 3 1 (.slice (some ⟨w.heap.size + 1 + 1, 0, none⟩) 0 0) 0 []) := by
    have h := World.ownsRow_made (base := w.heap.size + 1 + 1) (e := 3) (size := 1) ((w.alloc (.cells #[.int .i64 v, .slice o L.length cap] 45)).alloc (.cells #[.int .i64 0, .slice none 0 0] 45)) #[] 0 (by simp) (by decide) rfl
    rw [show ((w.alloc (.cells #[.int .i64 v, .slice o L.length cap] 45)).alloc (.cells #[.int .i64 0, .slice none 0 0] 45)).heap.size = w.heap.size + 1 + 1 by simp] at h
    exact h
  have HB1 := hide (HB.out.on ((Below.refl _ _).alloc (Nat.le_refl _) (.cells #[] 3)))
  clear hL hc hr hh hE
  cases o with
  | none =>
    have hL0 : L = [] := by
      cases L with
      | nil => rfl
      | cons x T => obtain ⟨b, hb, -⟩ := HL.out 0 x rfl; cases hb
    subst hL0
    obtain rfl : cap = 0 := hn rfl
    have HW : Hid (addI [] id = [id]) := addI_nil id
    rw [HW.out]
    simp only [List.length_nil] at HB HB1 HO HI f1
    simp only [List.length_nil, List.length_cons]
    have HO1 := hide (HO.out.alloc (.cells #[.int .i64 id] 3))
    have hs0 : (((w.alloc (.cells #[.int .i64 v, .slice none 0 0] 45)).alloc (.cells #[.int .i64 0, .slice none 0 0] 45)).alloc (.cells #[] 3)).heap.size = w.heap.size + 1 + 1 + 1 := by simp
    have HN1 : Hid (∀ j u, (cellsV [id])[j]? = some u → ((((w.alloc (.cells #[.int .i64 v, .slice none 0 0] 45)).alloc (.cells #[.int .i64 0, .slice none 0 0] 45)).alloc (.cells #[] 3)).alloc (.cells #[.int .i64 id] 3)).cell? ((⟨w.heap.size + 1 + 1 + 1, 0, none⟩ : Addr).add j) = some u) := ints_cells (intsAt_single (by simp [go_sem]))
    have hwr : IntKind.i64.wrap (v + 1) = v + 1 := by rw [IntKind.wrap_i64]; omega
    clear hs0
    go_enter Try.func20, Try.ntmps20
    go_wp2_with first
      | (go_at_call 60; refine (between_any _ _ _ _).mono ?_; rintro e w' ⟨rfl, rfl⟩; rw [hw])
      | (go_at_call 25; refine (HI.out _ (fun i p h => by simp at h)).mono ?_; rintro e w' ⟨rfl, rfl⟩)
      | (at_builtin; refine wpList_append_own_none rfl _ _ 24 rfl (w.heap.size + 1 + 1) 3 i0 1 Try.underlying24 hi _ 0 _ rfl HO.out rfl ?_)
      | (at_builtin; refine wpList_append_own _ rfl _ _ 24 rfl (w.heap.size + 1 + 1) 3 i0 _ 1 8 Try.underlying24 hi hz0 hz1 hz2 rfl (by decide) _ 0 _ rfl HO1.out ⟨w.heap.size + 1 + 1 + 1, 0, none⟩ 1 1 (cellsV [id]) rfl (cellsV_len [id]) HN1.out (oneV [id]) (by unfold maxLen; omega) (by omega) (by simp; try omega) ?_; intro v2 w2 hown2 hgrow2 _; have HB3 := hide ((HB1.out.on ((Below.refl _ _).alloc (Nat.le_refl _) (.cells #[.int .i64 id] 3))).keep ((Below.refl (w.heap.size + 1 + 1) _).grown hgrow2 (by simp; try omega) (fun k hk => (HO1.out.lt k hk).1))); obtain ⟨g, c2, rfl, hg, hgc⟩ := own_form hown2 (by omega); rw [Nat.zero_add] at hown2 hgc ⊢; have HO2 := hide hown2; clear hown2 hgrow2)
    clear HO HO1 HN1 HB HB1
    go_loopw [7] (fun j wr => j = .int .i64 0 ∧ Hid (wr.ownsRow (w.heap.size + 1 + 1) 3 1 (.slice (some ⟨g, 0, none⟩) 1 c2) 1 (cellsV [id])) ∧ Hid (Blks w wr ([] ++ [.cells #[.int .i64 v, .slice none 0 0] 45] ++ [.cells #[.int .i64 0, .slice none 0 0] 45]))) (fun j _ => (intOf j).toNat)
    case atStart => exact ⟨by simp, HO2, HB3⟩
    case round =>
      obtain ⟨rfl, hO, HBr⟩ := hrel
      have HV := hide (And.intro (intsV_own hO.out) (show Fresh (w.heap.size + 1 + 1) (.slice (some ⟨g, 0, none⟩) 1 c2) from fun n hn => by simp [Value.ownBlock] at hn; omega))
      have x0 := HBr.out.cell 0 0 w.heap.size _ _ _ rfl rfl rfl
      have r0 := HBr.out.cell 1 0 (w.heap.size + 1) _ _ _ rfl rfl rfl
      have r1 := HBr.out.cell 1 1 (w.heap.size + 1) _ _ _ rfl rfl rfl
      have s0 := HBr.out.frozen 1 0 (w.heap.size + 1) _ _ rfl rfl
      have s1 := HBr.out.frozen 1 1 (w.heap.size + 1) _ _ rfl rfl
      clear hO
      go_wp2_with fail
      go_region
      go_wp2_with fail
      refine bodyPost_ret (v := .tuple #[dn (v + 1) (some ⟨g, 0, none⟩) 1 c2, .int .i64 0]) (by simp [results, Try.results20, go_sem, *]) rfl ⟨⟨some ⟨g, 0, none⟩, c2, rfl, ?_, HV.out.2.monoD (by omega)⟩, ?_⟩
      · exact (HV.out.1.setD HV.out.2 (p := ⟨w.heap.size + 1, 0, none⟩) (by simp) (.int .i64 (v + 1))).setD HV.out.2 (p := ⟨w.heap.size + 1, 1, none⟩) (by simp) (.slice (some ⟨g, 0, none⟩) 1 c2)
      · exact ((HBr.out.2.2.setCell (p := ⟨w.heap.size + 1, 0, none⟩) (by simp) _).setCell (p := ⟨w.heap.size + 1, 1, none⟩) (by simp) _).drew
  | some A =>
    have HN := hide (ints_cells (HL.out.below HB1.out.2.2))
    go_enter Try.func20, Try.ntmps20
    go_wp2_with first
      | (go_at_call 60; refine (between_any _ _ _ _).mono ?_; rintro e w' ⟨rfl, rfl⟩; rw [hw])
      | (go_at_call 25; refine (HI.out _ (HL.out.below HB.out.2.2)).mono ?_; rintro e w' ⟨rfl, rfl⟩)
      | (at_builtin; refine wpList_append_own _ rfl _ _ 24 rfl (w.heap.size + 1 + 1) 3 i0 _ 1 8 Try.underlying24 hi hz0 hz1 hz2 rfl (by decide) _ 0 _ rfl HO.out A L.length cap (cellsV L) rfl (cellsV_len L) HN.out (oneV L) (by unfold maxLen; omega) (by omega) (by simp) ?_; intro v1 w1 hown1 hgrow1 _; have HB2 := hide (HB1.out.keep ((Below.refl (w.heap.size + 1 + 1) _).grown hgrow1 (by simp) (fun k hk => (HO.out.lt k hk).1))); have HO1 := hide (hown1.alloc (.cells #[.int .i64 id] 3)); have HN1 := hide (ints_cells (intsAt_single (w := w1.alloc (.cells #[.int .i64 id] 3)) (b := w1.heap.size) (j := id) (by simp [go_sem]))); have hs1 := HB2.out.2.1; simp only [List.length_append, List.length_cons, List.length_nil] at hs1; clear hown1 hgrow1)
      | (at_builtin; refine wpList_append_own _ rfl _ _ 24 rfl (w.heap.size + 1 + 1) 3 i0 _ 1 8 Try.underlying24 hi hz0 hz1 hz2 rfl (by decide) _ (0 + L.length) _ rfl HO1.out ⟨w1.heap.size, 0, none⟩ 1 1 (cellsV [id]) rfl (cellsV_len [id]) HN1.out (oneV [id]) (by unfold maxLen; omega) (by omega) (by simp; omega) ?_; intro v2 w2 hown2 hgrow2 _; have HB3 := hide ((HB2.out.on ((Below.refl _ _).alloc (Nat.le_refl _) (.cells #[.int .i64 id] 3))).keep ((Below.refl (w.heap.size + 1 + 1) _).grown hgrow2 (by simp; omega) (fun k hk => (HO1.out.lt k hk).1))); obtain ⟨g, c2, rfl, hg, hgc⟩ := own_form hown2 (by omega); rw [Nat.zero_add] at hown2 hgc ⊢; have HO2 := hide hown2; clear hown2 hgrow2)
    have HQ : Hid (w2.ownsRow (w.heap.size + 1 + 1) 3 1 (.slice (some ⟨g, 0, none⟩) (L.length + 1) c2) (L.length + 1) (cellsV (L.take L.length ++ [id] ++ L.drop L.length))) := by
      have h := HO2.out
      rw [List.nil_append, ← cellsV_app] at h
      show World.ownsRow _ _ _ _ _ _ _
      simpa using h
    clear HO HO1 HN HN1 HO2 HB HB1 HB2
    go_loopw [7] (fun j wr => ∃ (q : Nat), q ≤ L.length ∧ j = .int .i64 q ∧ Hid (wr.ownsRow (w.heap.size + 1 + 1) 3 1 (.slice (some ⟨g, 0, none⟩) (L.length + 1) c2) (L.length + 1) (cellsV (L.take q ++ [id] ++ L.drop q))) ∧ Hid (∀ y, L[q]? = some y → id < y) ∧ Hid (Blks w wr ([] ++ [.cells #[.int .i64 v, .slice (some A) L.length cap] 45] ++ [.cells #[.int .i64 0, .slice none 0 0] 45]))) (fun j _ => (intOf j).toNat)
    case atStart => exact ⟨L.length, Nat.le_refl _, by simp, HQ, fun y hy => by simp at hy, HB3⟩
    case round =>
      obtain ⟨q, hq, rfl, hO, hG, HBr⟩ := hrel
      have hwr : IntKind.i64.wrap (v + 1) = v + 1 := by rw [IntKind.wrap_i64]; omega
      rcases q with _ | k
      · skip
        have HP := hide (posI_at (L := L) (id := id) (q := 0) (by omega) (fun j y hj => by omega) hG.out)
        have HV := hide (And.intro (intsV_own hO.out) (show Fresh (w.heap.size + 1 + 1) (.slice (some ⟨g, 0, none⟩) (L.length + 1) c2) from fun n hn => by simp [Value.ownBlock] at hn; omega))
        have x0 := HBr.out.cell 0 0 w.heap.size _ _ _ rfl rfl rfl
        have r0 := HBr.out.cell 1 0 (w.heap.size + 1) _ _ _ rfl rfl rfl
        have r1 := HBr.out.cell 1 1 (w.heap.size + 1) _ _ _ rfl rfl rfl
        have s0 := HBr.out.frozen 1 0 (w.heap.size + 1) _ _ rfl rfl
        have s1 := HBr.out.frozen 1 1 (w.heap.size + 1) _ _ rfl rfl
        clear hO hG
        go_wp2_with fail
        go_region
        go_wp2_with fail
        refine bodyPost_ret (v := .tuple #[dn (v + 1) (some ⟨g, 0, none⟩) (L.length + 1) c2, .int .i64 0]) (by simp [results, Try.results20, go_sem, *]) rfl ⟨⟨some ⟨g, 0, none⟩, c2, by rw [addI_len], ?_, fun n hn => HV.out.2.monoD (show w.heap.size ≤ w.heap.size + 1 + 1 by omega) n hn⟩, ?_⟩
        · obtain ⟨o', c', e', hI, -⟩ := (HV.out.1.setD HV.out.2 (p := ⟨w.heap.size + 1, 0, none⟩) (by simp) (.int .i64 (v + 1))).setD HV.out.2 (p := ⟨w.heap.size + 1, 1, none⟩) (by simp) (.slice (some ⟨g, 0, none⟩) (L.length + 1) c2)
          simp only [Value.slice.injEq] at e'
          obtain ⟨rfl, -, -⟩ := e'
          refine ⟨_, _, rfl, ?_, by rw [addI_len]; exact hgc, fun h => by cases h⟩
          rw [addI, HP.out]
          exact hI
        · exact ((HBr.out.2.2.setCell (p := ⟨w.heap.size + 1, 0, none⟩) (by simp) _).setCell (p := ⟨w.heap.size + 1, 1, none⟩) (by simp) _).drew
      · obtain ⟨x, hx⟩ : ∃ x, L[k]? = some x := ⟨L[k]'(by omega), by simp⟩
        have hlk : (L.take (k + 1)).length = k + 1 := by rw [List.length_take]; omega
        have c1 : wr.cell? ⟨g, k + 1, none⟩ = some (.int .i64 id) := by
          rw [hO.out.cellAt (k + 1) (by omega)]
          simp only [cellsV, List.getElem?_map]
          rw [List.getElem?_append_left (by simp; omega), List.getElem?_append_right (by omega), hlk]
          simp
        have c0 : wr.cell? ⟨g, k, none⟩ = some (.int .i64 x) := by
          rw [hO.out.cellAt k (by omega)]
          simp only [cellsV, List.getElem?_map]
          rw [List.getElem?_append_left (by simp; omega), List.getElem?_append_left (by omega), List.getElem?_take, if_pos (by omega), hx]
          rfl
        have z1 := hO.out.frozenAt (k + 1)
        have z0 := hO.out.frozenAt k
        have hadd := own_addr g k
        by_cases hlt : id < x
        · have HO' := hide ((hO.out.stored (k + 1) (.int .i64 x)).1.stored k (.int .i64 id)).1
          have HG' : Hid (∀ y, L[k]? = some y → id < y) := fun y hy => by
            rw [hx] at hy
            cases hy
            exact hlt
          have HS := hide (swap_list L id x k hx)
          clear hG hx
          go_wp2_with fail
          go_region
          go_wp2_with fail
          go_region
          have HO2 := HO'.out
          rw [HS.out] at HO2
          have HB2 := (HBr.out.set ⟨g, k + 1, none⟩ (by simp; omega) (.int .i64 x)).set ⟨g, k, none⟩ (by simp; omega) (.int .i64 id)
          have HO3 := hide HO2.drew.drew
          have HB3 := hide ((HB2.on (Below.refl _ _).drew).on (Below.refl _ _).drew)
          clear HO' HO2 HB2 hO HBr HS
          go_wp2_with fail
          exact ⟨⟨k, by omega, by simp, HO3, HG', HB3⟩, by simp [intOf]⟩
        · have HX := hide hx
          clear hx
          have HP := hide (posI_at (L := L) (id := id) (q := k + 1) (by omega) (fun j y hj hy => by have := errD_le HR.out hy HX.out (by omega); omega) hG.out)
          have HV := hide (And.intro (intsV_own hO.out) (show Fresh (w.heap.size + 1 + 1) (.slice (some ⟨g, 0, none⟩) (L.length + 1) c2) from fun n hn => by simp [Value.ownBlock] at hn; omega))
          have x0 := HBr.out.cell 0 0 w.heap.size _ _ _ rfl rfl rfl
          have r0 := HBr.out.cell 1 0 (w.heap.size + 1) _ _ _ rfl rfl rfl
          have r1 := HBr.out.cell 1 1 (w.heap.size + 1) _ _ _ rfl rfl rfl
          have s0 := HBr.out.frozen 1 0 (w.heap.size + 1) _ _ rfl rfl
          have s1 := HBr.out.frozen 1 1 (w.heap.size + 1) _ _ rfl rfl
          clear hO hG
          go_wp2_with fail
          go_region
          go_wp2_with fail
          refine bodyPost_ret (v := .tuple #[dn (v + 1) (some ⟨g, 0, none⟩) (L.length + 1) c2, .int .i64 0]) (by simp [results, Try.results20, go_sem, *]) rfl ⟨⟨some ⟨g, 0, none⟩, c2, by rw [addI_len], ?_, fun n hn => HV.out.2.monoD (show w.heap.size ≤ w.heap.size + 1 + 1 by omega) n hn⟩, ?_⟩
          · obtain ⟨o', c', e', hI, -⟩ := (HV.out.1.setD HV.out.2 (p := ⟨w.heap.size + 1, 0, none⟩) (by simp) (.int .i64 (v + 1))).setD HV.out.2 (p := ⟨w.heap.size + 1, 1, none⟩) (by simp) (.slice (some ⟨g, 0, none⟩) (L.length + 1) c2)
            simp only [Value.slice.injEq] at e'
            obtain ⟨rfl, -, -⟩ := e'
            refine ⟨_, _, rfl, ?_, by rw [addI_len]; exact hgc, fun h => by cases h⟩
            rw [addI, HP.out]
            exact hI
          · exact ((HBr.out.2.2.setCell (p := ⟨w.heap.size + 1, 0, none⟩) (by simp) _).setCell (p := ⟨w.heap.size + 1, 1, none⟩) (by simp) _).drew
end Go.Proofs.Ytcakfmpckbmdeac
