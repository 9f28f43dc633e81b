/-
  'EnterOf' (package leeboardref): errors.
-/
import Derived.Test.YtcakfmpckbmdeabW1
import Derived.Test.YtcakfmpckbmdeabR7
import Derived.Test.YtcakfmpckbmdeabM2
import Derived.Test.YtcakfmpckbmdeabG0
namespace Go.Proofs.Ytcakfmpckbmdeab
open Go.RowKit

theorem idxT_id' {T : List TK} {id : Int} {k : Nat} {x : TK} (h : idxT T id = (k : Int)) (hx : T[k]? = some x) : x.i = id := by
  unfold idxT at h
  cases hf : T.findIdx? (fun p => p.i == id) with
  | none =>
    rw [hf] at h
    simp at h
  | some j =>
    rw [hf] at h
    have hj : j = k := by
      have : ((j : Nat) : Int) = k := h
      omega
    subst hj
    obtain ⟨h1, h2, -⟩ := List.findIdx?_eq_some_iff_getElem.1 hf
    have : T[j] = x := by
      have := List.getElem?_eq_some_iff.1 hx
      exact this.2
    rw [this] at h2
    simpa using h2

/-- the ways of Enter, as the document has them -/
theorem enter_ways {T : List TK} {P : List TP} {V : List Int} (p : TP) (h0 : chkL T P V = 0) :
    (chkT p ≠ 0 ∧ enterV T P V p = (0, chkT p)) ∨
    (chkT p = 0 ∧ idxT T p.a < 0 ∧ enterV T P V p = (0, 5)) ∨
    (chkT p = 0 ∧ ∃ (k : Nat) (x : TK), idxT T p.a = k ∧ T[k]? = some x ∧ chkK x = 0 ∧
      ((twiceT P p = true ∧ enterV T P V p = (0, 6)) ∨
       (twiceT P p = false ∧ (∃ n q, P.length = n + 1 ∧ P[n]? = some q ∧ p.m < q.m) ∧ enterV T P V p = (0, 4)) ∨
       (twiceT P p = false ∧ (P = [] ∨ ∃ n q, P.length = n + 1 ∧ P[n]? = some q ∧ ¬ p.m < q.m) ∧
         enterV T P V p = if (judge x.k x.f x.t x.z x.r (many (P.zip V) p.a).2 (many (P.zip V) p.a).1 p.m p.z).2 ≠ 0 then judge x.k x.f x.t x.z x.r (many (P.zip V) p.a).2 (many (P.zip V) p.a).1 p.m p.z
           else if P.length = 60 then (0, 2) else ((judge x.k x.f x.t x.z x.r (many (P.zip V) p.a).2 (many (P.zip V) p.a).1 p.m p.z).1, 0)))) := by
  obtain ⟨r1, r2, r3, r4, r5⟩ := chkL_right h0
  have hE : enterV T P V p = if unf T P p ≠ 0 then (0, unf T P p) else if earlyB P p.m = true then (0, 4) else if (judB T (P.zip V) p).2 ≠ 0 then judB T (P.zip V) p else if P.length = 60 then (0, 2) else ((judB T (P.zip V) p).1, 0) := by
    unfold enterV
    rw [if_neg (by simp [h0])]
  by_cases h1 : chkT p = 0
  · right
    cases h2 : hasT T p.a
    · left
      have hu : unf T P p = 5 := by simp [unf, firstE, h1, h2]
      refine ⟨h1, ?_, by rw [hE, hu]; rfl⟩
      by_cases hi : idxT T p.a < 0
      · exact hi
      · obtain ⟨k, x, e1, e2⟩ := idxT_get hi
        have hx : x.i = p.a := idxT_id' e1 e2
        rw [← hx, hasT_mem (List.mem_of_getElem? e2)] at h2
        cases h2
    · right
      obtain ⟨x, hx, e1, e2⟩ := hasT_pos (rising_of r4) h2
      refine ⟨h1, posT T p.a, x, e2, hx, checked_of r4 x (List.mem_of_getElem? hx), ?_⟩
      cases h3 : twiceT P p
      · right
        have hu : unf T P p = 0 := by simp [unf, firstE, h1, h2, h3]
        rw [hu, if_neg (by simp)] at hE
        have hJ : judB T (P.zip V) p = judge x.k x.f x.t x.z x.r (many (P.zip V) p.a).2 (many (P.zip V) p.a).1 p.m p.z := by
          have e := judB_verd (V := V) (i := P.length) (rising_of r4) (checked_of r4) (fun y hy => errP_all_chk r5 y (List.mem_of_mem_take hy)) r2 h1 h2
          rw [List.take_of_length_le (by rw [List.length_zip]; omega)] at e
          rw [e]
          unfold verd
          rw [e2, show T.getD ((posT T p.a : Int)).toNat tk0 = x by simp [List.getD, hx], List.take_of_length_le (by rw [List.length_zip]; omega)]
        rw [hJ] at hE
        rcases List.eq_nil_or_concat P with hP | ⟨L, q, hP⟩
        · right
          refine ⟨rfl, Or.inl hP, ?_⟩
          rw [hE, if_neg (by simp [earlyB, hP])]
        · rw [List.concat_eq_append] at hP
          have hl : P.length = L.length + 1 := by rw [hP]; simp
          have hq : P[L.length]? = some q := by rw [hP]; simp
          have he : earlyB P p.m = decide (p.m < q.m) := by simp [earlyB, hP]
          by_cases hm : p.m < q.m
          · left
            refine ⟨rfl, ⟨L.length, q, hl, hq, hm⟩, ?_⟩
            rw [hE, if_pos (by simp [he, hm])]
          · right
            refine ⟨rfl, Or.inr ⟨L.length, q, hl, hq, hm⟩, ?_⟩
            rw [hE, if_neg (by simp [he, hm])]
      · left
        have hu : unf T P p = 6 := by simp [unf, firstE, h1, h2, h3]
        exact ⟨rfl, by rw [hE, hu]; rfl⟩
  · left
    have hu : unf T P p = chkT p := by simp [unf, firstE, h1]
    exact ⟨h1, by rw [hE, hu, if_pos h1]⟩

set_option maxHeartbeats 3200000 in
theorem enterOf_tap (T : List TK) (P : List TP) (V : List Int) (a g s m z : Int) (o1 o2 o3 : Option Addr) (c1 c2 c3 : Nat) (w : World) (hT : TiksAt w o1 T) (hP : TapsAt w o2 P) (hV : IntsAt w o3 V) (hlT : T.length ≤ 12) (_hlP : P.length ≤ 60) (h : chkP a g s m z ≠ 0) :
    Calls Try.prog 23 #[lg o1 o2 o3 T.length c1 P.length c2 V.length c3, tp a g s m z] w fun e w' => (∃ v, e = .returned (.tuple #[v, .int .i64 0, .int .i64 (chkP a g s m z)]) ∧ LedV w' v [] [] []) ∧ Below w.heap.size w w' := by
  have HT := hide hT
  have HP := hide hP
  have HV := hide hV
  clear hT hP hV
  have HX := hide (fun W => checkTap_any a g s m z W)
  generalize chkP a g s m z = x at *
  have hx : (x != 0) = true := by simpa using h
  clear h
  go_enter Try.func23, Try.ntmps23
  go_wp2_with fail
  have HG1 := hide ((((Blks.nil w).more (.cells #[.slice o1 T.length c1, .slice o2 P.length c2, .slice o3 V.length c3] 43) (by simp)).more (.cells #[.int .i64 a, .int .i64 g, .int .i64 s, .int .i64 m, .int .i64 z] 32) (by simp)).more (.cells #[.slice none 0 0, .slice none 0 0, .slice none 0 0] 43) (by simp))
  refine (HX.out _).mono ?_
  rintro e w1 ⟨rfl, hb⟩
  have HG1w1 := hide (HG1.out.on hb)
  clear hb HG1
  have lG1_0 := HG1w1.out.lt 0 w.heap.size (by simp) rfl
  have cG1_0_0 := HG1w1.out.cell 0 0 w.heap.size _ _ _ rfl rfl rfl
  have cG1_0_1 := HG1w1.out.cell 0 1 w.heap.size _ _ _ rfl rfl rfl
  have cG1_0_2 := HG1w1.out.cell 0 2 w.heap.size _ _ _ rfl rfl rfl
  have lG1_1 := HG1w1.out.lt 1 (w.heap.size + 1) (by simp) rfl
  have cG1_1_0 := HG1w1.out.cell 1 0 (w.heap.size + 1) _ _ _ rfl rfl rfl
  have cG1_1_1 := HG1w1.out.cell 1 1 (w.heap.size + 1) _ _ _ rfl rfl rfl
  have cG1_1_2 := HG1w1.out.cell 1 2 (w.heap.size + 1) _ _ _ rfl rfl rfl
  have cG1_1_3 := HG1w1.out.cell 1 3 (w.heap.size + 1) _ _ _ rfl rfl rfl
  have cG1_1_4 := HG1w1.out.cell 1 4 (w.heap.size + 1) _ _ _ rfl rfl rfl
  have lG1_2 := HG1w1.out.lt 2 (w.heap.size + 1 + 1) (by simp) rfl
  have cG1_2_0 := HG1w1.out.cell 2 0 (w.heap.size + 1 + 1) _ _ _ rfl rfl rfl
  have fG1_2_0 := HG1w1.out.frozen 2 0 (w.heap.size + 1 + 1) _ _ rfl rfl
  have cG1_2_1 := HG1w1.out.cell 2 1 (w.heap.size + 1 + 1) _ _ _ rfl rfl rfl
  have fG1_2_1 := HG1w1.out.frozen 2 1 (w.heap.size + 1 + 1) _ _ rfl rfl
  have cG1_2_2 := HG1w1.out.cell 2 2 (w.heap.size + 1 + 1) _ _ _ rfl rfl rfl
  have fG1_2_2 := HG1w1.out.frozen 2 2 (w.heap.size + 1 + 1) _ _ rfl rfl
  go_wp2_with fail
  refine (ticketAt_any o1 _ T _ _ (HT.out.below HG1w1.out.2.2) (by omega)).mono ?_
  rintro e w1' ⟨rfl, hw1⟩
  obtain rfl := hw1.symm
  clear hw1
  go_wp2_with fail
  refine bodyPost_ret (v := .tuple #[lg none none none 0 0 0 0 0 0, .int .i64 0, .int .i64 x]) (by simp [results, Try.results23, go_sem, *]) rfl ⟨⟨_, rfl, ledV_none _⟩, ?_⟩
  repeat (first | with_reducible refine Below.setCell ?_ (by simp; try omega) _ | exact HG1w1.out.2.2)

set_option maxHeartbeats 3200000 in
theorem enterOf_none (T : List TK) (P : List TP) (V : List Int) (a g s m z : Int) (o1 o2 o3 : Option Addr) (c1 c2 c3 : Nat) (w : World) (hT : TiksAt w o1 T) (hP : TapsAt w o2 P) (hV : IntsAt w o3 V) (hlT : T.length ≤ 12) (_hlP : P.length ≤ 60) (h : chkP a g s m z = 0) (hi : idxT T a < 0) :
    Calls Try.prog 23 #[lg o1 o2 o3 T.length c1 P.length c2 V.length c3, tp a g s m z] w fun e w' => (∃ v, e = .returned (.tuple #[v, .int .i64 0, .int .i64 5]) ∧ LedV w' v [] [] []) ∧ Below w.heap.size w w' := by
  have HT := hide hT
  have HP := hide hP
  have HV := hide hV
  clear hT hP hV
  have HX := hide (fun W => checkTap_any a g s m z W)
  rw [h] at HX
  clear h
  go_enter Try.func23, Try.ntmps23
  go_wp2_with fail
  have HG1 := hide ((((Blks.nil w).more (.cells #[.slice o1 T.length c1, .slice o2 P.length c2, .slice o3 V.length c3] 43) (by simp)).more (.cells #[.int .i64 a, .int .i64 g, .int .i64 s, .int .i64 m, .int .i64 z] 32) (by simp)).more (.cells #[.slice none 0 0, .slice none 0 0, .slice none 0 0] 43) (by simp))
  refine (HX.out _).mono ?_
  rintro e w1 ⟨rfl, hb⟩
  have HG1w1 := hide (HG1.out.on hb)
  clear hb HG1
  have lG1_0 := HG1w1.out.lt 0 w.heap.size (by simp) rfl
  have cG1_0_0 := HG1w1.out.cell 0 0 w.heap.size _ _ _ rfl rfl rfl
  have cG1_0_1 := HG1w1.out.cell 0 1 w.heap.size _ _ _ rfl rfl rfl
  have cG1_0_2 := HG1w1.out.cell 0 2 w.heap.size _ _ _ rfl rfl rfl
  have lG1_1 := HG1w1.out.lt 1 (w.heap.size + 1) (by simp) rfl
  have cG1_1_0 := HG1w1.out.cell 1 0 (w.heap.size + 1) _ _ _ rfl rfl rfl
  have cG1_1_1 := HG1w1.out.cell 1 1 (w.heap.size + 1) _ _ _ rfl rfl rfl
  have cG1_1_2 := HG1w1.out.cell 1 2 (w.heap.size + 1) _ _ _ rfl rfl rfl
  have cG1_1_3 := HG1w1.out.cell 1 3 (w.heap.size + 1) _ _ _ rfl rfl rfl
  have cG1_1_4 := HG1w1.out.cell 1 4 (w.heap.size + 1) _ _ _ rfl rfl rfl
  have lG1_2 := HG1w1.out.lt 2 (w.heap.size + 1 + 1) (by simp) rfl
  have cG1_2_0 := HG1w1.out.cell 2 0 (w.heap.size + 1 + 1) _ _ _ rfl rfl rfl
  have fG1_2_0 := HG1w1.out.frozen 2 0 (w.heap.size + 1 + 1) _ _ rfl rfl
  have cG1_2_1 := HG1w1.out.cell 2 1 (w.heap.size + 1 + 1) _ _ _ rfl rfl rfl
  have fG1_2_1 := HG1w1.out.frozen 2 1 (w.heap.size + 1 + 1) _ _ rfl rfl
  have cG1_2_2 := HG1w1.out.cell 2 2 (w.heap.size + 1 + 1) _ _ _ rfl rfl rfl
  have fG1_2_2 := HG1w1.out.frozen 2 2 (w.heap.size + 1 + 1) _ _ rfl rfl
  go_wp2_with fail
  refine (ticketAt_any o1 _ T _ _ (HT.out.below HG1w1.out.2.2) (by omega)).mono ?_
  rintro e w1' ⟨rfl, hw1⟩
  obtain rfl := hw1.symm
  clear hw1
  go_wp2_with fail
  refine bodyPost_ret (v := .tuple #[lg none none none 0 0 0 0 0 0, .int .i64 0, .int .i64 5]) (by simp [results, Try.results23, go_sem, *]) rfl ⟨⟨_, rfl, ledV_none _⟩, ?_⟩
  repeat (first | with_reducible refine Below.setCell ?_ (by simp; try omega) _ | exact HG1w1.out.2.2)

set_option maxHeartbeats 3200000 in
theorem enterOf_twice (T : List TK) (P : List TP) (V : List Int) (a g s m z : Int) (o1 o2 o3 : Option Addr) (c1 c2 c3 : Nat) (w : World) (hT : TiksAt w o1 T) (hP : TapsAt w o2 P) (hV : IntsAt w o3 V) (hlT : T.length ≤ 12) (hlP : P.length ≤ 60) (h : chkP a g s m z = 0) (k : Nat) (hi : idxT T a = k) (htw : twiceT P ⟨a, g, s, m, z⟩ = true) :
    Calls Try.prog 23 #[lg o1 o2 o3 T.length c1 P.length c2 V.length c3, tp a g s m z] w fun e w' => (∃ v, e = .returned (.tuple #[v, .int .i64 0, .int .i64 6]) ∧ LedV w' v [] [] []) ∧ Below w.heap.size w w' := by
  have HT := hide hT
  have HP := hide hP
  have HV := hide hV
  clear hT hP hV
  have HX := hide (fun W => checkTap_any a g s m z W)
  rw [h] at HX
  have HZ := hide (fun W (h : TapsAt W o2 P) => isTwice_any o2 c2 P P.length a g s m z W h (Nat.le_refl _) (by omega))
  rw [List.take_length] at HZ
  rw [htw] at HZ
  clear h htw
  go_enter Try.func23, Try.ntmps23
  go_wp2_with fail
  have HG1 := hide ((((Blks.nil w).more (.cells #[.slice o1 T.length c1, .slice o2 P.length c2, .slice o3 V.length c3] 43) (by simp)).more (.cells #[.int .i64 a, .int .i64 g, .int .i64 s, .int .i64 m, .int .i64 z] 32) (by simp)).more (.cells #[.slice none 0 0, .slice none 0 0, .slice none 0 0] 43) (by simp))
  refine (HX.out _).mono ?_
  rintro e w1 ⟨rfl, hb⟩
  have HG1w1 := hide (HG1.out.on hb)
  clear hb HG1
  have lG1_0 := HG1w1.out.lt 0 w.heap.size (by simp) rfl
  have cG1_0_0 := HG1w1.out.cell 0 0 w.heap.size _ _ _ rfl rfl rfl
  have cG1_0_1 := HG1w1.out.cell 0 1 w.heap.size _ _ _ rfl rfl rfl
  have cG1_0_2 := HG1w1.out.cell 0 2 w.heap.size _ _ _ rfl rfl rfl
  have lG1_1 := HG1w1.out.lt 1 (w.heap.size + 1) (by simp) rfl
  have cG1_1_0 := HG1w1.out.cell 1 0 (w.heap.size + 1) _ _ _ rfl rfl rfl
  have cG1_1_1 := HG1w1.out.cell 1 1 (w.heap.size + 1) _ _ _ rfl rfl rfl
  have cG1_1_2 := HG1w1.out.cell 1 2 (w.heap.size + 1) _ _ _ rfl rfl rfl
  have cG1_1_3 := HG1w1.out.cell 1 3 (w.heap.size + 1) _ _ _ rfl rfl rfl
  have cG1_1_4 := HG1w1.out.cell 1 4 (w.heap.size + 1) _ _ _ rfl rfl rfl
  have lG1_2 := HG1w1.out.lt 2 (w.heap.size + 1 + 1) (by simp) rfl
  have cG1_2_0 := HG1w1.out.cell 2 0 (w.heap.size + 1 + 1) _ _ _ rfl rfl rfl
  have fG1_2_0 := HG1w1.out.frozen 2 0 (w.heap.size + 1 + 1) _ _ rfl rfl
  have cG1_2_1 := HG1w1.out.cell 2 1 (w.heap.size + 1 + 1) _ _ _ rfl rfl rfl
  have fG1_2_1 := HG1w1.out.frozen 2 1 (w.heap.size + 1 + 1) _ _ rfl rfl
  have cG1_2_2 := HG1w1.out.cell 2 2 (w.heap.size + 1 + 1) _ _ _ rfl rfl rfl
  have fG1_2_2 := HG1w1.out.frozen 2 2 (w.heap.size + 1 + 1) _ _ rfl rfl
  go_wp2_with fail
  refine (ticketAt_any o1 _ T _ _ (HT.out.below HG1w1.out.2.2) (by omega)).mono ?_
  rintro e w1' ⟨rfl, hw1⟩
  obtain rfl := hw1.symm
  clear hw1
  rw [hi]
  have hk0 : ¬ ((k : Int) < 0) := by omega
  go_wp2_with fail
  refine (HZ.out _ (HP.out.below HG1w1.out.2.2)).mono ?_
  rintro e w2 ⟨rfl, hb⟩
  have HG1w2 := hide (HG1w1.out.on hb)
  clear lG1_0 cG1_0_0 cG1_0_1 cG1_0_2 lG1_1 cG1_1_0 cG1_1_1 cG1_1_2 cG1_1_3 cG1_1_4 lG1_2 cG1_2_0 fG1_2_0 cG1_2_1 fG1_2_1 cG1_2_2 fG1_2_2
  clear hb HG1w1
  have lG1_0 := HG1w2.out.lt 0 w.heap.size (by simp) rfl
  have cG1_0_0 := HG1w2.out.cell 0 0 w.heap.size _ _ _ rfl rfl rfl
  have cG1_0_1 := HG1w2.out.cell 0 1 w.heap.size _ _ _ rfl rfl rfl
  have cG1_0_2 := HG1w2.out.cell 0 2 w.heap.size _ _ _ rfl rfl rfl
  have lG1_1 := HG1w2.out.lt 1 (w.heap.size + 1) (by simp) rfl
  have cG1_1_0 := HG1w2.out.cell 1 0 (w.heap.size + 1) _ _ _ rfl rfl rfl
  have cG1_1_1 := HG1w2.out.cell 1 1 (w.heap.size + 1) _ _ _ rfl rfl rfl
  have cG1_1_2 := HG1w2.out.cell 1 2 (w.heap.size + 1) _ _ _ rfl rfl rfl
  have cG1_1_3 := HG1w2.out.cell 1 3 (w.heap.size + 1) _ _ _ rfl rfl rfl
  have cG1_1_4 := HG1w2.out.cell 1 4 (w.heap.size + 1) _ _ _ rfl rfl rfl
  have lG1_2 := HG1w2.out.lt 2 (w.heap.size + 1 + 1) (by simp) rfl
  have cG1_2_0 := HG1w2.out.cell 2 0 (w.heap.size + 1 + 1) _ _ _ rfl rfl rfl
  have fG1_2_0 := HG1w2.out.frozen 2 0 (w.heap.size + 1 + 1) _ _ rfl rfl
  have cG1_2_1 := HG1w2.out.cell 2 1 (w.heap.size + 1 + 1) _ _ _ rfl rfl rfl
  have fG1_2_1 := HG1w2.out.frozen 2 1 (w.heap.size + 1 + 1) _ _ rfl rfl
  have cG1_2_2 := HG1w2.out.cell 2 2 (w.heap.size + 1 + 1) _ _ _ rfl rfl rfl
  have fG1_2_2 := HG1w2.out.frozen 2 2 (w.heap.size + 1 + 1) _ _ rfl rfl
  go_wp2_with fail
  refine bodyPost_ret (v := .tuple #[lg none none none 0 0 0 0 0 0, .int .i64 0, .int .i64 6]) (by simp [results, Try.results23, go_sem, *]) rfl ⟨⟨_, rfl, ledV_none _⟩, ?_⟩
  repeat (first | with_reducible refine Below.setCell ?_ (by simp; try omega) _ | exact HG1w2.out.2.2)

set_option maxHeartbeats 3200000 in
theorem enterOf_early (T : List TK) (P : List TP) (V : List Int) (a g s m z : Int) (o1 o2 o3 : Option Addr) (c1 c2 c3 : Nat) (w : World) (hT : TiksAt w o1 T) (hP : TapsAt w o2 P) (hV : IntsAt w o3 V) (hlT : T.length ≤ 12) (hlP : P.length ≤ 60) (h : chkP a g s m z = 0) (k : Nat) (hi : idxT T a = k) (htw : twiceT P ⟨a, g, s, m, z⟩ = false) (n : Nat) (q : TP) (hn : P.length = n + 1) (hq : P[n]? = some q) (hm : m < q.m) :
    Calls Try.prog 23 #[lg o1 o2 o3 T.length c1 P.length c2 V.length c3, tp a g s m z] w fun e w' => (∃ v, e = .returned (.tuple #[v, .int .i64 0, .int .i64 4]) ∧ LedV w' v [] [] []) ∧ Below w.heap.size w w' := by
  have HT := hide hT
  have HP := hide hP
  have HV := hide hV
  clear hT hP hV
  have HX := hide (fun W => checkTap_any a g s m z W)
  rw [h] at HX
  have HZ := hide (fun W (h : TapsAt W o2 P) => isTwice_any o2 c2 P P.length a g s m z W h (Nat.le_refl _) (by omega))
  rw [List.take_length] at HZ
  rw [htw] at HZ
  have HQ := hide hq
  rw [hn] at hlP HZ ⊢
  clear h htw hq hn
  go_enter Try.func23, Try.ntmps23
  go_wp2_with fail
  have HG1 := hide ((((Blks.nil w).more (.cells #[.slice o1 T.length c1, .slice o2 (n + 1) c2, .slice o3 V.length c3] 43) (by simp)).more (.cells #[.int .i64 a, .int .i64 g, .int .i64 s, .int .i64 m, .int .i64 z] 32) (by simp)).more (.cells #[.slice none 0 0, .slice none 0 0, .slice none 0 0] 43) (by simp))
  refine (HX.out _).mono ?_
  rintro e w1 ⟨rfl, hb⟩
  have HG1w1 := hide (HG1.out.on hb)
  clear hb HG1
  have lG1_0 := HG1w1.out.lt 0 w.heap.size (by simp) rfl
  have cG1_0_0 := HG1w1.out.cell 0 0 w.heap.size _ _ _ rfl rfl rfl
  have cG1_0_1 := HG1w1.out.cell 0 1 w.heap.size _ _ _ rfl rfl rfl
  have cG1_0_2 := HG1w1.out.cell 0 2 w.heap.size _ _ _ rfl rfl rfl
  have lG1_1 := HG1w1.out.lt 1 (w.heap.size + 1) (by simp) rfl
  have cG1_1_0 := HG1w1.out.cell 1 0 (w.heap.size + 1) _ _ _ rfl rfl rfl
  have cG1_1_1 := HG1w1.out.cell 1 1 (w.heap.size + 1) _ _ _ rfl rfl rfl
  have cG1_1_2 := HG1w1.out.cell 1 2 (w.heap.size + 1) _ _ _ rfl rfl rfl
  have cG1_1_3 := HG1w1.out.cell 1 3 (w.heap.size + 1) _ _ _ rfl rfl rfl
  have cG1_1_4 := HG1w1.out.cell 1 4 (w.heap.size + 1) _ _ _ rfl rfl rfl
  have lG1_2 := HG1w1.out.lt 2 (w.heap.size + 1 + 1) (by simp) rfl
  have cG1_2_0 := HG1w1.out.cell 2 0 (w.heap.size + 1 + 1) _ _ _ rfl rfl rfl
  have fG1_2_0 := HG1w1.out.frozen 2 0 (w.heap.size + 1 + 1) _ _ rfl rfl
  have cG1_2_1 := HG1w1.out.cell 2 1 (w.heap.size + 1 + 1) _ _ _ rfl rfl rfl
  have fG1_2_1 := HG1w1.out.frozen 2 1 (w.heap.size + 1 + 1) _ _ rfl rfl
  have cG1_2_2 := HG1w1.out.cell 2 2 (w.heap.size + 1 + 1) _ _ _ rfl rfl rfl
  have fG1_2_2 := HG1w1.out.frozen 2 2 (w.heap.size + 1 + 1) _ _ rfl rfl
  go_wp2_with fail
  refine (ticketAt_any o1 _ T _ _ (HT.out.below HG1w1.out.2.2) (by omega)).mono ?_
  rintro e w1' ⟨rfl, hw1⟩
  obtain rfl := hw1.symm
  clear hw1
  rw [hi]
  have hk0 : ¬ ((k : Int) < 0) := by omega
  go_wp2_with fail
  refine (HZ.out _ (HP.out.below HG1w1.out.2.2)).mono ?_
  rintro e w2 ⟨rfl, hb⟩
  have HG1w2 := hide (HG1w1.out.on hb)
  clear lG1_0 cG1_0_0 cG1_0_1 cG1_0_2 lG1_1 cG1_1_0 cG1_1_1 cG1_1_2 cG1_1_3 cG1_1_4 lG1_2 cG1_2_0 fG1_2_0 cG1_2_1 fG1_2_1 cG1_2_2 fG1_2_2
  clear hb HG1w1
  have lG1_0 := HG1w2.out.lt 0 w.heap.size (by simp) rfl
  have cG1_0_0 := HG1w2.out.cell 0 0 w.heap.size _ _ _ rfl rfl rfl
  have cG1_0_1 := HG1w2.out.cell 0 1 w.heap.size _ _ _ rfl rfl rfl
  have cG1_0_2 := HG1w2.out.cell 0 2 w.heap.size _ _ _ rfl rfl rfl
  have lG1_1 := HG1w2.out.lt 1 (w.heap.size + 1) (by simp) rfl
  have cG1_1_0 := HG1w2.out.cell 1 0 (w.heap.size + 1) _ _ _ rfl rfl rfl
  have cG1_1_1 := HG1w2.out.cell 1 1 (w.heap.size + 1) _ _ _ rfl rfl rfl
  have cG1_1_2 := HG1w2.out.cell 1 2 (w.heap.size + 1) _ _ _ rfl rfl rfl
  have cG1_1_3 := HG1w2.out.cell 1 3 (w.heap.size + 1) _ _ _ rfl rfl rfl
  have cG1_1_4 := HG1w2.out.cell 1 4 (w.heap.size + 1) _ _ _ rfl rfl rfl
  have lG1_2 := HG1w2.out.lt 2 (w.heap.size + 1 + 1) (by simp) rfl
  have cG1_2_0 := HG1w2.out.cell 2 0 (w.heap.size + 1 + 1) _ _ _ rfl rfl rfl
  have fG1_2_0 := HG1w2.out.frozen 2 0 (w.heap.size + 1 + 1) _ _ rfl rfl
  have cG1_2_1 := HG1w2.out.cell 2 1 (w.heap.size + 1 + 1) _ _ _ rfl rfl rfl
  have fG1_2_1 := HG1w2.out.frozen 2 1 (w.heap.size + 1 + 1) _ _ rfl rfl
  have cG1_2_2 := HG1w2.out.cell 2 2 (w.heap.size + 1 + 1) _ _ _ rfl rfl rfl
  have fG1_2_2 := HG1w2.out.frozen 2 2 (w.heap.size + 1 + 1) _ _ rfl rfl
  obtain ⟨A, rfl, e0, e1, e2, e3, e4⟩ := (HP.out.below HG1w2.out.2.2) n q HQ.out
  go_wp2_with fail
  go_region
  go_wp2_with fail
  refine bodyPost_ret (v := .tuple #[lg none none none 0 0 0 0 0 0, .int .i64 0, .int .i64 4]) (by simp [results, Try.results23, go_sem, *]) rfl ⟨⟨_, rfl, ledV_none _⟩, ?_⟩
  refine Below.drew ?_
  repeat (first | with_reducible refine Below.setCell ?_ (by simp; try omega) _ | exact HG1w2.out.2.2)

end Go.Proofs.Ytcakfmpckbmdeab
