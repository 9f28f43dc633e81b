/-
  The walk of AuditTells.
-/
import Derived.Test.YtcakfmpckbmdeaeA3
import Derived.Test.YtcakfmpckbmdeaeA6
import Derived.Test.YtcakfmpckbmdeaeW4
import Derived.Deep.CutRange
import Derived.Deep.CutBlock
namespace Go.Proofs.Ytcakfmpckbmdeae
open Go.RowKit

/-- how many taps are between two times -/
def cntA (x y : Int) (L : List TP) : Int := ((L.filter fun p => wi p.m x y).length : Int)

theorem cntA_snoc (x y : Int) (L : List TP) (p : TP) : cntA x y (L ++ [p]) = cntA x y L + if wi p.m x y = true then 1 else 0 := by
  unfold cntA
  rw [List.filter_append, List.length_append]
  by_cases h : wi p.m x y = true
  · simp only [List.filter_cons, h, if_true, List.filter_nil, List.length_cons, List.length_nil]
    omega
  · simp only [List.filter_cons, h, List.filter_nil]
    simp

theorem cntA_bound (x y : Int) (L : List TP) : 0 ≤ cntA x y L ∧ cntA x y L ≤ L.length := by
  unfold cntA
  have := List.length_filter_le (fun p : TP => wi p.m x y) L
  omega

theorem cntA_cnt (x y : Int) : ∀ (P : List TP) (V : List Int), V.length = P.length → (∀ v ∈ V, v = 1 ∨ v = 2) → cnt (fun p => wi p.m x y) (P.zip V) 1 + cnt (fun p => wi p.m x y) (P.zip V) 2 = cntA x y P
  | [], [], _, _ => rfl
  | p :: P, v :: V, hl, hv => by
    have ih := cntA_cnt x y P V (by simpa using hl) (fun u hu => hv u (by simp [hu]))
    unfold cnt cntA at ih ⊢
    rw [List.zip_cons_cons, List.filter_cons, List.filter_cons, List.filter_cons]
    rcases hv v (by simp) with rfl | rfl <;> cases h : wi p.m x y <;> simp [h] at ih ⊢ <;> omega
  | p :: P, [], hl, _ => by simp at hl
  | [], v :: V, hl, _ => by simp at hl

theorem idxT_id {T : List TK} {id : Int} {k : Nat} {x : TK} (h : idxT T id = (k : Int)) (hx : T[k]? = some x) : x.i = id := by
  unfold idxT at h
  cases hf : T.findIdx? (fun p => p.i == id) with
  | none =>
    rw [hf] at h
    simp at h
  | some j =>
    rw [hf] at h
    have hj : j = k := by
      have : ((j : Nat) : Int) = k := h
      omega
    subst hj
    obtain ⟨h1, h2, -⟩ := List.findIdx?_eq_some_iff_getElem.1 hf
    have : T[j] = x := by
      have := List.getElem?_eq_some_iff.1 hx
      exact this.2
    rw [this] at h2
    simpa using h2

/-- the ways of Left -/
theorem leftV_ways {T : List TK} {P : List TP} {V : List Int} (id : Int) (h0 : chkL T P V = 0) : (idxT T id < 0 ∧ leftV T P V id = (0, 5)) ∨ (∃ (k : Nat) (x : TK), idxT T id = k ∧ T[k]? = some x ∧ chkK x = 0 ∧ leftV T P V id = (allR x.k x.r - (many (P.zip V) x.i).1, 0)) := by
  have hr := chkL_right h0
  have hR : ridesV T P V id = if hasT T id = true then (((ridesL (P.zip V) id).length : Int), 0) else (0, 5) := by unfold ridesV; rw [if_neg (by simp [h0])]
  cases hh : hasT T id
  · rw [hh] at hR
    left
    refine ⟨?_, by unfold leftV; rw [hR]; rfl⟩
    by_cases hi : idxT T id < 0
    · exact hi
    · obtain ⟨k, x, e1, e2⟩ := idxT_get hi
      have hx : x.i = id := idxT_id e1 e2
      rw [← hx, hasT_mem (List.mem_of_getElem? e2)] at hh
      cases hh
  · rw [hh] at hR
    right
    obtain ⟨h1, h2, h3⟩ := tikOf_at (rising_of hr.2.2.2.1) hh
    refine ⟨posT T id, tikOf T id, h3, h1, checked_of hr.2.2.2.1 _ (List.mem_of_getElem? h1), ?_⟩
    unfold leftV
    rw [hR, if_pos rfl, if_pos rfl, h2, many_rides]

set_option maxHeartbeats 6400000 in
set_option maxRecDepth 100000 in
theorem auditTells_walk (o1 o2 o3 : Option Addr) (T : List TK) (P : List TP) (V : List Int) (c1 c2 c3 : Nat) (g id x y : Int) (w : World) (h : LedV w (lg o1 o2 o3 T.length c1 P.length c2 V.length c3) T P V) (hl : LensOk T P V) :
    Calls Try.prog 5 #[lg o1 o2 o3 T.length c1 P.length c2 V.length c3, .int .i64 g, .int .i64 id, .int .i64 x, .int .i64 y] w fun e w' => e = .returned (.bool true) ∧ Below w.heap.size w w' := by
  have HL0 := hide h
  have HG := hide (fun W (h : LedV W (lg o1 o2 o3 T.length c1 P.length c2 V.length c3) T P V) => gateVv h hl g)
  have HLf := hide (fun W (h : LedV W (lg o1 o2 o3 T.length c1 P.length c2 V.length c3) T P V) => leftVv h hl id)
  have HBt := hide (fun W (h : LedV W (lg o1 o2 o3 T.length c1 P.length c2 V.length c3) T P V) => betwVv h hl x y)
  have HC := hide (fun W (h : LedV W (lg o1 o2 o3 T.length c1 P.length c2 V.length c3) T P V) => checkLedger_any o1 o2 o3 c1 c2 c3 T P V W h.at.1 h.at.2.1 h.at.2.2.1)
  have hl1 := hl.1
  clear h hl
  have HX0 := hide (fun (h : chkL T P V ≠ 0) => (by unfold gateV leftV betwV ridesV; rw [if_pos h, if_pos h, if_pos h]; simp [h] : gateV T P V g = (0, 0, chkL T P V) ∧ leftV T P V id = (0, chkL T P V) ∧ betwV T P V x y = (0, chkL T P V)))
  have HX1 := hide (fun (h : chkL T P V = 0) => (by unfold gateV; rw [if_neg (by simp [h])] : gateV T P V g = if wi g 0 2 = true then (cnt (fun p => p.g == g) (P.zip V) 1, cnt (fun p => p.g == g) (P.zip V) 2, 0) else (0, 0, 3)))
  have HX2 := hide (fun (h : chkL T P V = 0) => leftV_ways id h)
  have HX3 := hide (fun (h : chkL T P V = 0) => (by unfold betwV; rw [if_neg (by simp [h]), cntA_cnt x y P V (chkL_right h).2.2.1 (chkL_verds h)] : betwV T P V x y = if (wi x 0 9999 && wi y 0 9999) = true then (if y < x then (0, 4) else (cntA x y P, 0)) else (0, 3)))
  have HX4 := hide (fun (h : chkL T P V = 0) => chkL_right h)
  generalize chkL T P V = X at *
  generalize gateV T P V g = G at *
  generalize leftV T P V id = LL at *
  generalize betwV T P V x y = BB at *
  obtain ⟨G1, G2, G3⟩ := G
  obtain ⟨L1, L2⟩ := LL
  obtain ⟨B1, B2⟩ := BB
  simp only [] at HG HLf HBt
  go_enter Try.func5, Try.ntmps5
  go_wp2_with fail
  have HG1 := hide ((Blks.nil w).more (.cells #[.slice o1 T.length c1, .slice o2 P.length c2, .slice o3 V.length c3] 26) (by simp))
  refine (HG.out _ (HL0.out.below HG1.out.2.2)).mono ?_
  rintro e w1 ⟨rfl, hb⟩
  have HG1w1 := hide (HG1.out.on hb)
  clear hb HG1
  have lG1_0 := HG1w1.out.lt 0 w.heap.size (by simp) rfl
  have cG1_0_0 := HG1w1.out.cell 0 0 w.heap.size _ _ _ rfl rfl rfl
  have cG1_0_1 := HG1w1.out.cell 0 1 w.heap.size _ _ _ rfl rfl rfl
  have cG1_0_2 := HG1w1.out.cell 0 2 w.heap.size _ _ _ rfl rfl rfl
  go_wp2_with fail
  refine (HLf.out _ (HL0.out.below HG1w1.out.2.2)).mono ?_
  rintro e w2 ⟨rfl, hb⟩
  have HG1w2 := hide (HG1w1.out.on hb)
  clear lG1_0 cG1_0_0 cG1_0_1 cG1_0_2
  clear hb HG1w1
  have lG1_0 := HG1w2.out.lt 0 w.heap.size (by simp) rfl
  have cG1_0_0 := HG1w2.out.cell 0 0 w.heap.size _ _ _ rfl rfl rfl
  have cG1_0_1 := HG1w2.out.cell 0 1 w.heap.size _ _ _ rfl rfl rfl
  have cG1_0_2 := HG1w2.out.cell 0 2 w.heap.size _ _ _ rfl rfl rfl
  go_wp2_with fail
  refine (HBt.out _ (HL0.out.below HG1w2.out.2.2)).mono ?_
  rintro e w3 ⟨rfl, hb⟩
  have HG1w3 := hide (HG1w2.out.on hb)
  clear lG1_0 cG1_0_0 cG1_0_1 cG1_0_2
  clear hb HG1w2
  have lG1_0 := HG1w3.out.lt 0 w.heap.size (by simp) rfl
  have cG1_0_0 := HG1w3.out.cell 0 0 w.heap.size _ _ _ rfl rfl rfl
  have cG1_0_1 := HG1w3.out.cell 0 1 w.heap.size _ _ _ rfl rfl rfl
  have cG1_0_2 := HG1w3.out.cell 0 2 w.heap.size _ _ _ rfl rfl rfl
  go_wp2_with fail
  refine (HC.out _ (HL0.out.below HG1w3.out.2.2)).mono ?_
  rintro e w4 ⟨rfl, hb⟩
  have HG1w4 := hide (HG1w3.out.on hb)
  clear lG1_0 cG1_0_0 cG1_0_1 cG1_0_2
  clear hb HG1w3
  have lG1_0 := HG1w4.out.lt 0 w.heap.size (by simp) rfl
  have cG1_0_0 := HG1w4.out.cell 0 0 w.heap.size _ _ _ rfl rfl rfl
  have cG1_0_1 := HG1w4.out.cell 0 1 w.heap.size _ _ _ rfl rfl rfl
  have cG1_0_2 := HG1w4.out.cell 0 2 w.heap.size _ _ _ rfl rfl rfl
  go_upto_if 54 with fail
  go_cut [19, 20, 21, 22, 23, 24, 25] from 26 (fun s19 s20 s21 s22 s23 s24 s25 wx => s19 = .int .i64 G3 ∧ s20 = .int .i64 L2 ∧ s21 = .int .i64 B2 ∧ s22 = .int .i64 G1 ∧ s23 = .int .i64 G2 ∧ s24 = .int .i64 L1 ∧ s25 = .int .i64 B1 ∧ Below w.heap.size w wx)
  case first =>
    by_cases hX : X = 0
    · subst hX
      have R3 := hide (HX4.out rfl).2.2.1
      have r1 := (HX4.out rfl).1
      have r2 := (HX4.out rfl).2.1
      have HY1 := hide (HX1.out rfl)
      have HY2 := hide (HX2.out rfl)
      have HY3 := hide (HX3.out rfl)
      clear HX0 HX4 HG HLf HBt HC HX1 HX2 HX3
      go_upto_if 60 with fail
      refine (ticketAt_any o1 c1 T id _ (HL0.out.below HG1w4.out.2.2).at.1 hl1).mono ?_
      rintro e w4' ⟨rfl, hw4⟩
      obtain rfl := hw4.symm
      clear hw4
      go_upto_if 60 with fail
      go_cut [20, 24] from 26 (fun s20 s24 wx => s20 = .int .i64 L2 ∧ s24 = .int .i64 L1 ∧ Blks w wx ([] ++ [.cells #[.slice o1 T.length c1, .slice o2 P.length c2, .slice o3 V.length c3] 26]))
      case first =>
        rcases HY2.out with ⟨hn, he⟩ | ⟨k, tx, hk, htx, hck, he⟩
        · have HE := hide he
          clear he HY2 HY1 HY3
          go_wp2_with fail
          go_meet
          case rel =>
            have he := HE.out
            simp only [Prod.mk.injEq] at he
            exact ⟨by rw [he.2], by rw [he.1], HG1w4.out⟩
        · have HE := hide he
          clear he HY2 HY1 HY3
          rw [hk]
          have hk0 : ¬ ((k : Int) < 0) := by omega
          go_wp2_with fail
          refine (leftOf_any o1 o2 o3 c1 c2 c3 T P V k tx _ (HL0.out.below HG1w4.out.2.2).at.1 (HL0.out.below HG1w4.out.2.2).at.2.1 (HL0.out.below HG1w4.out.2.2).at.2.2.1 R3.out r2 r1 htx hck).mono ?_
          rintro e w5 ⟨rfl, hb⟩
          have HK := hide (HG1w4.out.on hb)
          clear hb
          go_wp2_with fail
          go_meet
          case rel =>
            have he := HE.out
            simp only [Prod.mk.injEq] at he
            exact ⟨by rw [he.2], by rw [he.1], HK.out⟩
      case rest =>
        obtain ⟨rfl, rfl, hbk⟩ := hcut
        have HK := hide hbk
        clear hbk HY2 HG1w4 cG1_0_0 cG1_0_1 cG1_0_2 lG1_0
        go_upto_region 12 with fail
        go_cut [69] from 26 (fun s69 wx => s69 = .bool (!(wi g 0 2)) ∧ Blks w wx ([] ++ [.cells #[.slice o1 T.length c1, .slice o2 P.length c2, .slice o3 V.length c3] 26]))
        case first =>
          have hg : g < 0 ∨ (¬ g < 0 ∧ 3 ≤ g) ∨ (¬ g < 0 ∧ ¬ 3 ≤ g) := by omega
          have HW := hide (wi_iff g 0 2)
          clear HY1 HY3
          rcases hg with h1 | ⟨h1, h2⟩ | ⟨h1, h2⟩
          all_goals
            go_wp2_with fail
            go_meet
            case rel =>
              refine ⟨?_, HK.out⟩
              have hw := HW.out
              cases hwi : wi g 0 2
              · rw [hwi] at hw; simp at hw ⊢; try omega
              · rw [hwi] at hw; simp at hw ⊢; try omega
        case rest =>
          obtain ⟨rfl, hbk⟩ := hcut
          have HK1 := hide hbk
          clear hbk HK
          go_upto_if 69 with fail
          go_cut [19, 22, 23] from 26 (fun s19 s22 s23 wx => s19 = .int .i64 G3 ∧ s22 = .int .i64 G1 ∧ s23 = .int .i64 G2 ∧ Blks w wx ([] ++ [.cells #[.slice o1 T.length c1, .slice o2 P.length c2, .slice o3 V.length c3] 26]))
          case first =>
            have he := HY1.out
            cases hwi : wi g 0 2
            · rw [hwi, if_neg (by simp)] at he
              have HE := hide he
              clear he HY1 HY3
              go_wp2_with fail
              go_meet
              case rel =>
                have he := HE.out
                simp only [Prod.mk.injEq] at he
                exact ⟨by rw [he.2.2], by rw [he.1], by rw [he.2.1], HK1.out⟩
            · rw [hwi, if_pos rfl] at he
              have HE := hide he
              clear he HY1 HY3
              have x0 := HK1.out.cell 0 0 w.heap.size _ _ _ rfl rfl rfl
              have x1 := HK1.out.cell 0 1 w.heap.size _ _ _ rfl rfl rfl
              have x2 := HK1.out.cell 0 2 w.heap.size _ _ _ rfl rfl rfl
              go_wp2_with fail
              refine (atGate_any o1 o2 o3 T.length c1 c2 c3 P V g _ (HL0.out.below HK1.out.2.2).at.2.1 (HL0.out.below HK1.out.2.2).at.2.2.1 R3.out r2).mono ?_
              rintro e w5 ⟨rfl, hb⟩
              have HK2 := hide (HK1.out.on hb)
              clear hb
              go_wp2_with fail
              go_meet
              case rel =>
                have he := HE.out
                simp only [Prod.mk.injEq] at he
                exact ⟨by rw [he.2.2], by rw [he.1], by rw [he.2.1], HK2.out⟩
          case rest =>
            obtain ⟨rfl, rfl, rfl, hbk⟩ := hcut
            have HK2 := hide hbk
            clear hbk HK1 HY1
            go_upto_block 0 with fail
            go_cut [21] from 26 (fun s21 wx => s21 = .int .i64 B2 ∧ Blks w wx ([] ++ [.cells #[.slice o1 T.length c1, .slice o2 P.length c2, .slice o3 V.length c3] 26]))
            case first =>
              have he := HY3.out
              have hw : (B2 = 3 ∧ (x < 0 ∨ (¬ x < 0 ∧ 9999 < x) ∨ (¬ x < 0 ∧ ¬ 9999 < x ∧ y < 0) ∨ (¬ x < 0 ∧ ¬ 9999 < x ∧ ¬ y < 0 ∧ 9999 < y))) ∨ (¬ x < 0 ∧ ¬ 9999 < x ∧ ¬ y < 0 ∧ ¬ 9999 < y ∧ ((y < x ∧ B2 = 4) ∨ (¬ y < x ∧ B2 = 0))) := by
                cases h : (wi x 0 9999 && wi y 0 9999)
                · rw [h, if_neg (by simp)] at he
                  simp only [Prod.mk.injEq] at he
                  have h1 := wi_iff x 0 9999
                  have h2 := wi_iff y 0 9999
                  left
                  refine ⟨he.2, ?_⟩
                  cases e1 : wi x 0 9999
                  · rw [e1] at h1
                    simp at h1
                    omega
                  · rw [e1] at h h1
                    simp at h h1
                    rw [h] at h2
                    simp at h2
                    omega
                · rw [h, if_pos rfl] at he
                  simp at h
                  have h1 := (wi_iff x 0 9999).1 h.1
                  have h2 := (wi_iff y 0 9999).1 h.2
                  right
                  refine ⟨by omega, by omega, by omega, by omega, ?_⟩
                  by_cases hyx : y < x
                  · rw [if_pos hyx] at he
                    simp only [Prod.mk.injEq] at he
                    exact Or.inl ⟨hyx, he.2⟩
                  · rw [if_neg hyx] at he
                    simp only [Prod.mk.injEq] at he
                    exact Or.inr ⟨hyx, he.2⟩
              clear he HY3
              rcases hw with ⟨rfl, h1 | ⟨h1, h2⟩ | ⟨h1, h2, h3⟩ | ⟨h1, h2, h3, h4⟩⟩ | ⟨h1, h2, h3, h4, ⟨h5, rfl⟩ | ⟨h5, rfl⟩⟩
              all_goals
                go_wp2_with fail
                go_meet
                case rel => exact ⟨rfl, HK2.out⟩
            case rest =>
              obtain ⟨rfl, hbk⟩ := hcut
              have HK3 := hide hbk
              clear hbk HK2
              have HZ : Hid ((B2 ≠ 0 → B1 = 0) ∧ (B2 = 0 → B1 = cntA x y P)) := by
                have he := HY3.out
                show _ ∧ _
                cases h : (wi x 0 9999 && wi y 0 9999)
                · rw [h, if_neg (by simp)] at he
                  simp only [Prod.mk.injEq] at he
                  refine ⟨fun _ => he.1, fun h => ?_⟩
                  omega
                · rw [h, if_pos rfl] at he
                  by_cases hyx : y < x
                  · rw [if_pos hyx] at he
                    simp only [Prod.mk.injEq] at he
                    refine ⟨fun _ => he.1, fun h => ?_⟩
                    omega
                  · rw [if_neg hyx] at he
                    simp only [Prod.mk.injEq] at he
                    exact ⟨fun h => absurd he.2 h, fun _ => he.1⟩
              clear HY3
              have HTp := hide (fun W (hb : Below w.heap.size w W) => (HL0.out.below hb).at.2.1)
              by_cases hB2 : B2 = 0
              · have HZ1 := hide (HZ.out.2 hB2)
                subst hB2
                clear HZ
                go_wp2_with fail
                go_loopw [25, 27] (fun s25 s27 wr => ∃ (q : Nat) (c : Int), q ≤ P.length ∧ s27 = .int .i64 q ∧ s25 = .int .i64 c ∧ 0 ≤ c ∧ c ≤ q ∧ Hid (cntA x y (P.take q) = c) ∧ Hid (Blks w wr ([] ++ [.cells #[.slice o1 T.length c1, .slice o2 P.length c2, .slice o3 V.length c3] 26]))) (fun _ s27 _ => P.length - (intOf s27).toNat)
                case atStart => exact ⟨0, 0, Nat.zero_le _, rfl, rfl, by omega, by omega, rfl, HK3⟩
                case round =>
                  obtain ⟨q, c, hq, rfl, rfl, hc0, hcq, hM, HB⟩ := hrel
                  have x1 := HB.out.cell 0 1 w.heap.size _ _ _ rfl rfl rfl
                  by_cases hlt : q < P.length
                  · obtain ⟨p, hp⟩ : ∃ p, P[q]? = some p := ⟨P[q], by simp [hlt]⟩
                    obtain ⟨A, rfl, e0, e1, e2, e3, e4⟩ := HTp.out wr HB.out.2.2 q p hp
                    have HS : Hid (cntA x y (P.take (q + 1)) = c + if wi p.m x y = true then 1 else 0) := by
                      show _ = _
                      rw [List.take_add_one, hp, Option.toList_some, cntA_snoc, hM.out]
                    have hw : (¬ x ≤ p.m ∧ Hid (cntA x y (P.take (q + 1)) = c)) ∨ (x ≤ p.m ∧ ¬ p.m ≤ y ∧ Hid (cntA x y (P.take (q + 1)) = c)) ∨ (x ≤ p.m ∧ p.m ≤ y ∧ Hid (cntA x y (P.take (q + 1)) = c + 1)) := by
                      have h := HS.out
                      have h1 := wi_iff p.m x y
                      cases e : wi p.m x y
                      · rw [e] at h h1
                        simp at h h1
                        by_cases hx : x ≤ p.m
                        · exact Or.inr (Or.inl ⟨hx, by have := h1 hx; omega, hide h⟩)
                        · exact Or.inl ⟨hx, hide h⟩
                      · rw [e] at h h1
                        simp at h h1
                        exact Or.inr (Or.inr ⟨h1.1, h1.2, hide h⟩)
                    clear HS hM hp
                    rcases hw with ⟨h1, h3⟩ | ⟨h1, h2, h3⟩ | ⟨h1, h2, h3⟩
                    · go_wp2_with fail
                      exact ⟨⟨q + 1, c, by omega, by simp, rfl, by omega, by omega, h3, HB⟩, by simp [intOf]; omega⟩
                    · go_wp2_with fail
                      exact ⟨⟨q + 1, c, by omega, by simp, rfl, by omega, by omega, h3, HB⟩, by simp [intOf]; omega⟩
                    · go_wp2_with fail
                      exact ⟨⟨q + 1, c + 1, by omega, by simp, rfl, by omega, by omega, h3, HB⟩, by simp [intOf]; omega⟩
                  · have HR : Hid (c = B1) := by
                      show _ = _
                      rw [HZ1.out, ← hM.out, List.take_of_length_le (by omega)]
                    clear hM HZ1
                    go_wp2_with fail
                    go_meet
                    case rel => exact ⟨rfl, rfl, rfl, rfl, rfl, rfl, by rw [HR.out], HB.out.2.2⟩
              · have HZ1 := hide (HZ.out.1 hB2)
                have hB2' : (B2 == 0) = false := by simpa using hB2
                clear HZ hB2
                go_wp2_with fail
                go_loopw [25, 27] (fun s25 s27 wr => s27 = .int .i64 0 ∧ s25 = .int .i64 0 ∧ Hid (Blks w wr ([] ++ [.cells #[.slice o1 T.length c1, .slice o2 P.length c2, .slice o3 V.length c3] 26]))) (fun _ _ _ => 0)
                case atStart => exact ⟨rfl, rfl, HK3⟩
                case round =>
                  obtain ⟨rfl, rfl, HB⟩ := hrel
                  have x1 := HB.out.cell 0 1 w.heap.size _ _ _ rfl rfl rfl
                  by_cases hlt : 0 < P.length
                  all_goals
                    go_wp2_with fail
                    go_meet
                    case rel => exact ⟨rfl, rfl, rfl, rfl, rfl, rfl, by rw [HZ1.out], HB.out.2.2⟩
    · have hX' : (X == 0) = false := by simpa using hX
      obtain ⟨e1, e2, e3⟩ := HX0.out hX
      simp only [Prod.mk.injEq] at e1 e2 e3
      have HE := hide (And.intro e1 (And.intro e2 e3))
      clear e1 e2 e3 hX
      go_wp2_with fail
      go_meet
      case rel =>
        obtain ⟨⟨rfl, rfl, rfl⟩, ⟨rfl, rfl⟩, rfl, rfl⟩ := HE.out
        exact ⟨rfl, rfl, rfl, rfl, rfl, rfl, rfl, HG1w4.out.2.2⟩
  case rest =>
    obtain ⟨rfl, rfl, rfl, rfl, rfl, rfl, rfl, hB⟩ := hcut
    go_wp2_with fail
    refine (auditBegun_any _).mono ?_
    rintro e w5 ⟨rfl, hb⟩
    go_wp2_with fail
    go_ret
    exact ⟨rfl, hB.trans (hb.mono hB.size)⟩
end Go.Proofs.Ytcakfmpckbmdeae
