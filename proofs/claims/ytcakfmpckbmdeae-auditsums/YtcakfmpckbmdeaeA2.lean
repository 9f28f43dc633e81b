/-
  'Gate', 'Left', 'Between' (package audit), on ledgers that lie behind a value.
-/
import Derived.Test.YtcakfmpckbmdeaeA1
import Derived.Test.YtcakfmpckbmdeaeM4
import Derived.Test.YtcakfmpckbmdeaeW1
namespace Go.Proofs.Ytcakfmpckbmdeae
open Go.RowKit

theorem chkL_verds {T : List TK} {P : List TP} {V : List Int} (h : chkL T P V = 0) : ∀ v ∈ V, v = 1 ∨ v = 2 := by
  intro v hv
  obtain ⟨n, hn⟩ := List.mem_iff_getElem?.1 hv
  have hl := (chkL_right h).2.2.1
  have hlt := (List.getElem?_eq_some_iff.1 hn).1
  obtain ⟨p, hp⟩ : ∃ p, P[n]? = some p := ⟨P[n]'(by omega), by simp⟩
  have e := prefix_enter h hp hn
  have := enter_verd (T := T) (P := P.take n) (V := V.take n) (p := p) (by rw [e])
  rw [e] at this
  exact this

/-- what Gate says -/
def gateV (T : List TK) (P : List TP) (V : List Int) (g : Int) : Int × Int × Int :=
  if chkL T P V ≠ 0 then (0, 0, chkL T P V) else if wi g 0 2 = true then (cnt (fun p => p.g == g) (P.zip V) 1, cnt (fun p => p.g == g) (P.zip V) 2, 0) else (0, 0, 3)

/-- what Between says -/
def betwV (T : List TK) (P : List TP) (V : List Int) (x y : Int) : Int × Int :=
  if chkL T P V ≠ 0 then (0, chkL T P V) else if (wi x 0 9999 && wi y 0 9999) = true then (if y < x then (0, 4) else (cnt (fun p => wi p.m x y) (P.zip V) 1 + cnt (fun p => wi p.m x y) (P.zip V) 2, 0)) else (0, 3)

/-- the ticket of an id -/
def tikOf (T : List TK) (id : Int) : TK := T.getD (posT T id) tk0

/-- what Left says -/
def leftV (T : List TK) (P : List TP) (V : List Int) (id : Int) : Int × Int :=
  if (ridesV T P V id).2 = 0 then (allR (tikOf T id).k (tikOf T id).r - (ridesV T P V id).1, 0) else (0, (ridesV T P V id).2)

set_option maxHeartbeats 3200000 in
theorem gateA_any (T : List TK) (P : List TP) (V : List Int) (g : Int) (o1 o2 o3 : Option Addr) (c1 c2 c3 : Nat) (w : World) (hT : TiksAt w o1 T) (hP : TapsAt w o2 P) (hV : IntsAt w o3 V) (hlT : T.length ≤ 9223372036854775807) (hlP : P.length ≤ 9223372036854775807) (hlV : V.length ≤ 9223372036854775807)
    (hc2 : P.length ≤ c2) (hc3 : V.length ≤ c3) :
    Calls Try.prog 18 #[lg o1 o2 o3 T.length c1 P.length c2 V.length c3, .int .i64 g] w fun e w' => e = .returned (.tuple #[.int .i64 (gateV T P V g).1, .int .i64 (gateV T P V g).2.1, .int .i64 (gateV T P V g).2.2]) ∧ Below w.heap.size w w' := by
  have HC := hide (fun W (h : TiksAt W o1 T) (h' : TapsAt W o2 P) (h'' : IntsAt W o3 V) => checkLed_any T P V o1 o2 o3 c1 c2 c3 W h h' h'' hlT hlP hlV hc2 hc3)
  have HW := hide (fun W => within_any g 0 2 W)
  have HN := hide (fun (h0 : chkL T P V = 0) (B : Nat) W (h' : TapsAt W o2 P) (h'' : IntsAt W o3 V) hc => countGate_any P V g B o1 o2 o3 T.length c1 c2 c3 W h' h'' (chkL_right h0).2.1 (chkL_right h0).2.2.1 (chkL_verds h0) hc)
  have HT := hide hT
  have HP := hide hP
  have HV := hide hV
  clear hT hP hV hlT hlP hlV hc2 hc3
  generalize hR : gateV T P V g = R
  unfold gateV at hR
  generalize chkL T P V = X at *
  generalize cnt (fun p => p.g == g) (P.zip V) 1 = C1 at *
  generalize cnt (fun p => p.g == g) (P.zip V) 2 = C2 at *
  by_cases hX : X = 0
  · subst hX
    have HN' := hide (HN.out rfl)
    clear HN
    rw [if_neg (by simp)] at hR
    cases hw : wi g 0 2
    · rw [hw, if_neg (by simp)] at hR
      subst hR
      rw [hw] at HW
      go_enter Try.func18, Try.ntmps18
      go_wp2_with fail
      have HG1 := hide (((Blks.nil w).more (.cells #[.slice o1 T.length c1, .slice o2 P.length c2, .slice o3 V.length c3] 26) (by simp)).more (.cells #[.int .i64 g] 3) (by simp))
      refine (HC.out _ (HT.out.below HG1.out.2.2) (HP.out.below HG1.out.2.2) (HV.out.below HG1.out.2.2)).mono ?_
      rintro e w1 ⟨rfl, hb⟩
      have HG1w1 := hide (HG1.out.on hb)
      clear hb HG1
      have lG1_0 := HG1w1.out.lt 0 w.heap.size (by simp) rfl
      have cG1_0_0 := HG1w1.out.cell 0 0 w.heap.size _ _ _ rfl rfl rfl
      have cG1_0_1 := HG1w1.out.cell 0 1 w.heap.size _ _ _ rfl rfl rfl
      have cG1_0_2 := HG1w1.out.cell 0 2 w.heap.size _ _ _ rfl rfl rfl
      have lG1_1 := HG1w1.out.lt 1 (w.heap.size + 1) (by simp) rfl
      have cG1_1_0 := HG1w1.out.cell 1 0 (w.heap.size + 1) _ _ _ rfl rfl rfl
      go_wp2_with fail
      refine (HW.out _).mono ?_
      rintro e w2 ⟨rfl, rfl⟩
      go_wp2_with fail
      refine bodyPost_ret (v := .tuple #[.int .i64 0, .int .i64 0, .int .i64 3]) (by simp [results, Try.results18, go_sem]) rfl ?_
      exact ⟨rfl, HG1w1.out.2.2⟩
    · rw [hw, if_pos rfl] at hR
      subst hR
      rw [hw] at HW
      go_enter Try.func18, Try.ntmps18
      go_wp2_with fail
      have HG1 := hide (((Blks.nil w).more (.cells #[.slice o1 T.length c1, .slice o2 P.length c2, .slice o3 V.length c3] 26) (by simp)).more (.cells #[.int .i64 g] 3) (by simp))
      refine (HC.out _ (HT.out.below HG1.out.2.2) (HP.out.below HG1.out.2.2) (HV.out.below HG1.out.2.2)).mono ?_
      rintro e w1 ⟨rfl, hb⟩
      have HG1w1 := hide (HG1.out.on hb)
      clear hb HG1
      have lG1_0 := HG1w1.out.lt 0 w.heap.size (by simp) rfl
      have cG1_0_0 := HG1w1.out.cell 0 0 w.heap.size _ _ _ rfl rfl rfl
      have cG1_0_1 := HG1w1.out.cell 0 1 w.heap.size _ _ _ rfl rfl rfl
      have cG1_0_2 := HG1w1.out.cell 0 2 w.heap.size _ _ _ rfl rfl rfl
      have lG1_1 := HG1w1.out.lt 1 (w.heap.size + 1) (by simp) rfl
      have cG1_1_0 := HG1w1.out.cell 1 0 (w.heap.size + 1) _ _ _ rfl rfl rfl
      go_wp2_with fail
      refine (HW.out _).mono ?_
      rintro e w2 ⟨rfl, rfl⟩
      go_wp2_with fail
      refine (HN'.out (w.heap.size + 1) _ (HP.out.below HG1w1.out.2.2) (HV.out.below HG1w1.out.2.2) cG1_1_0).mono ?_
      rintro e w2 ⟨rfl, hb⟩
      have HG1w2 := hide (HG1w1.out.on hb)
      clear lG1_0 cG1_0_0 cG1_0_1 cG1_0_2 lG1_1 cG1_1_0
      clear hb HG1w1
      go_wp2_with fail
      go_region
      go_wp2_with fail
      refine bodyPost_ret (v := .tuple #[.int .i64 C1, .int .i64 C2, .int .i64 0]) (by simp [results, Try.results18, go_sem]) rfl ?_
      exact ⟨rfl, Below.drew (HG1w2.out.2.2.alloc HG1w2.out.2.2.size _)⟩
  · have hX' : (X != 0) = true := by simpa using hX
    rw [if_pos hX] at hR
    subst hR
    clear hX HN
    go_enter Try.func18, Try.ntmps18
    go_wp2_with fail
    have HG1 := hide (((Blks.nil w).more (.cells #[.slice o1 T.length c1, .slice o2 P.length c2, .slice o3 V.length c3] 26) (by simp)).more (.cells #[.int .i64 g] 3) (by simp))
    refine (HC.out _ (HT.out.below HG1.out.2.2) (HP.out.below HG1.out.2.2) (HV.out.below HG1.out.2.2)).mono ?_
    rintro e w1 ⟨rfl, hb⟩
    have HG1w1 := hide (HG1.out.on hb)
    clear hb HG1
    have lG1_0 := HG1w1.out.lt 0 w.heap.size (by simp) rfl
    have cG1_0_0 := HG1w1.out.cell 0 0 w.heap.size _ _ _ rfl rfl rfl
    have cG1_0_1 := HG1w1.out.cell 0 1 w.heap.size _ _ _ rfl rfl rfl
    have cG1_0_2 := HG1w1.out.cell 0 2 w.heap.size _ _ _ rfl rfl rfl
    have lG1_1 := HG1w1.out.lt 1 (w.heap.size + 1) (by simp) rfl
    have cG1_1_0 := HG1w1.out.cell 1 0 (w.heap.size + 1) _ _ _ rfl rfl rfl
    go_wp2_with fail
    refine bodyPost_ret (v := .tuple #[.int .i64 0, .int .i64 0, .int .i64 X]) (by simp [results, Try.results18, go_sem]) rfl ?_
    exact ⟨rfl, HG1w1.out.2.2⟩

set_option maxHeartbeats 3200000 in
theorem betwA_any (T : List TK) (P : List TP) (V : List Int) (x y : Int) (o1 o2 o3 : Option Addr) (c1 c2 c3 : Nat) (w : World) (hT : TiksAt w o1 T) (hP : TapsAt w o2 P) (hV : IntsAt w o3 V) (hlT : T.length ≤ 9223372036854775807) (hlP : P.length ≤ 9223372036854775807) (hlV : V.length ≤ 9223372036854775807)
    (hc2 : P.length ≤ c2) (hc3 : V.length ≤ c3) :
    Calls Try.prog 19 #[lg o1 o2 o3 T.length c1 P.length c2 V.length c3, .int .i64 x, .int .i64 y] w fun e w' => e = .returned (.tuple #[.int .i64 (betwV T P V x y).1, .int .i64 (betwV T P V x y).2]) ∧ Below w.heap.size w w' := by
  have HC := hide (fun W (h : TiksAt W o1 T) (h' : TapsAt W o2 P) (h'' : IntsAt W o3 V) => checkLed_any T P V o1 o2 o3 c1 c2 c3 W h h' h'' hlT hlP hlV hc2 hc3)
  have HI := hide (fun W => isTime_any x W)
  have HJ := hide (fun W => isTime_any y W)
  have HN := hide (fun (h0 : chkL T P V = 0) (B : Nat) W (h' : TapsAt W o2 P) (h'' : IntsAt W o3 V) hc hd => countBetween_any P V x y B o1 o2 o3 T.length c1 c2 c3 W h' h'' (chkL_right h0).2.1 (chkL_right h0).2.2.1 (chkL_verds h0) hc hd)
  have HBd := hide (fun (h0 : chkL T P V = 0) => (by have b1 := cnt_bound (fun p => wi p.m x y) (P.zip V) 1; have b2 := cnt_bound (fun p => wi p.m x y) (P.zip V) 2; have l1 := (chkL_right h0).2.1; rw [List.length_zip] at b1 b2; omega : 0 ≤ cnt (fun p => wi p.m x y) (P.zip V) 1 + cnt (fun p => wi p.m x y) (P.zip V) 2 ∧ cnt (fun p => wi p.m x y) (P.zip V) 1 + cnt (fun p => wi p.m x y) (P.zip V) 2 ≤ 120))
  have HT := hide hT
  have HP := hide hP
  have HV := hide hV
  clear hT hP hV hlT hlP hlV hc2 hc3
  generalize hR : betwV T P V x y = R
  unfold betwV at hR
  generalize chkL T P V = X at *
  generalize cnt (fun p => wi p.m x y) (P.zip V) 1 = C1 at *
  generalize cnt (fun p => wi p.m x y) (P.zip V) 2 = C2 at *
  by_cases hX : X = 0
  · subst hX
    have HN' := hide (HN.out rfl)
    obtain ⟨hb1, hb2⟩ := HBd.out rfl
    clear HN HBd
    rw [if_neg (by simp)] at hR
    cases hx : wi x 0 9999
    · rw [hx, if_neg (by simp)] at hR
      subst hR
      rw [hx] at HI
      go_enter Try.func19, Try.ntmps19
      go_wp2_with fail
      have HG1 := hide ((((Blks.nil w).more (.cells #[.slice o1 T.length c1, .slice o2 P.length c2, .slice o3 V.length c3] 26) (by simp)).more (.cells #[.int .i64 x] 3) (by simp)).more (.cells #[.int .i64 y] 3) (by simp))
      refine (HC.out _ (HT.out.below HG1.out.2.2) (HP.out.below HG1.out.2.2) (HV.out.below HG1.out.2.2)).mono ?_
      rintro e w1 ⟨rfl, hb⟩
      have HG1w1 := hide (HG1.out.on hb)
      clear hb HG1
      have lG1_0 := HG1w1.out.lt 0 w.heap.size (by simp) rfl
      have cG1_0_0 := HG1w1.out.cell 0 0 w.heap.size _ _ _ rfl rfl rfl
      have cG1_0_1 := HG1w1.out.cell 0 1 w.heap.size _ _ _ rfl rfl rfl
      have cG1_0_2 := HG1w1.out.cell 0 2 w.heap.size _ _ _ rfl rfl rfl
      have lG1_1 := HG1w1.out.lt 1 (w.heap.size + 1) (by simp) rfl
      have cG1_1_0 := HG1w1.out.cell 1 0 (w.heap.size + 1) _ _ _ rfl rfl rfl
      have lG1_2 := HG1w1.out.lt 2 (w.heap.size + 1 + 1) (by simp) rfl
      have cG1_2_0 := HG1w1.out.cell 2 0 (w.heap.size + 1 + 1) _ _ _ rfl rfl rfl
      go_wp2_with fail
      refine (HI.out _).mono ?_
      rintro e w2 ⟨rfl, rfl⟩
      go_wp2_with fail
      go_ret2
      exact ⟨rfl, HG1w1.out.2.2⟩
    · rw [hx, Bool.true_and] at hR
      rw [hx] at HI
      cases hy : wi y 0 9999
      · rw [hy, if_neg (by simp)] at hR
        subst hR
        rw [hy] at HJ
        go_enter Try.func19, Try.ntmps19
        go_wp2_with fail
        have HG1 := hide ((((Blks.nil w).more (.cells #[.slice o1 T.length c1, .slice o2 P.length c2, .slice o3 V.length c3] 26) (by simp)).more (.cells #[.int .i64 x] 3) (by simp)).more (.cells #[.int .i64 y] 3) (by simp))
        refine (HC.out _ (HT.out.below HG1.out.2.2) (HP.out.below HG1.out.2.2) (HV.out.below HG1.out.2.2)).mono ?_
        rintro e w1 ⟨rfl, hb⟩
        have HG1w1 := hide (HG1.out.on hb)
        clear hb HG1
        have lG1_0 := HG1w1.out.lt 0 w.heap.size (by simp) rfl
        have cG1_0_0 := HG1w1.out.cell 0 0 w.heap.size _ _ _ rfl rfl rfl
        have cG1_0_1 := HG1w1.out.cell 0 1 w.heap.size _ _ _ rfl rfl rfl
        have cG1_0_2 := HG1w1.out.cell 0 2 w.heap.size _ _ _ rfl rfl rfl
        have lG1_1 := HG1w1.out.lt 1 (w.heap.size + 1) (by simp) rfl
        have cG1_1_0 := HG1w1.out.cell 1 0 (w.heap.size + 1) _ _ _ rfl rfl rfl
        have lG1_2 := HG1w1.out.lt 2 (w.heap.size + 1 + 1) (by simp) rfl
        have cG1_2_0 := HG1w1.out.cell 2 0 (w.heap.size + 1 + 1) _ _ _ rfl rfl rfl
        go_wp2_with fail
        refine (HI.out _).mono ?_
        rintro e w2 ⟨rfl, rfl⟩
        go_wp2_with fail
        refine (HJ.out _).mono ?_
        rintro e w2 ⟨rfl, rfl⟩
        go_wp2_with fail
        go_ret2
        exact ⟨rfl, HG1w1.out.2.2⟩
      · rw [hy, if_pos rfl] at hR
        rw [hy] at HJ
        by_cases hyx : y < x
        · rw [if_pos hyx] at hR
          subst hR
          go_enter Try.func19, Try.ntmps19
          go_wp2_with fail
          have HG1 := hide ((((Blks.nil w).more (.cells #[.slice o1 T.length c1, .slice o2 P.length c2, .slice o3 V.length c3] 26) (by simp)).more (.cells #[.int .i64 x] 3) (by simp)).more (.cells #[.int .i64 y] 3) (by simp))
          refine (HC.out _ (HT.out.below HG1.out.2.2) (HP.out.below HG1.out.2.2) (HV.out.below HG1.out.2.2)).mono ?_
          rintro e w1 ⟨rfl, hb⟩
          have HG1w1 := hide (HG1.out.on hb)
          clear hb HG1
          have lG1_0 := HG1w1.out.lt 0 w.heap.size (by simp) rfl
          have cG1_0_0 := HG1w1.out.cell 0 0 w.heap.size _ _ _ rfl rfl rfl
          have cG1_0_1 := HG1w1.out.cell 0 1 w.heap.size _ _ _ rfl rfl rfl
          have cG1_0_2 := HG1w1.out.cell 0 2 w.heap.size _ _ _ rfl rfl rfl
          have lG1_1 := HG1w1.out.lt 1 (w.heap.size + 1) (by simp) rfl
          have cG1_1_0 := HG1w1.out.cell 1 0 (w.heap.size + 1) _ _ _ rfl rfl rfl
          have lG1_2 := HG1w1.out.lt 2 (w.heap.size + 1 + 1) (by simp) rfl
          have cG1_2_0 := HG1w1.out.cell 2 0 (w.heap.size + 1 + 1) _ _ _ rfl rfl rfl
          go_wp2_with fail
          refine (HI.out _).mono ?_
          rintro e w2 ⟨rfl, rfl⟩
          go_wp2_with fail
          refine (HJ.out _).mono ?_
          rintro e w2 ⟨rfl, rfl⟩
          go_wp2_with fail
          go_ret2
          exact ⟨rfl, HG1w1.out.2.2⟩
        · rw [if_neg hyx] at hR
          subst hR
          have hwr : IntKind.i64.wrap (C1 + C2) = C1 + C2 := by rw [IntKind.wrap_i64]; omega
          go_enter Try.func19, Try.ntmps19
          go_wp2_with fail
          have HG1 := hide ((((Blks.nil w).more (.cells #[.slice o1 T.length c1, .slice o2 P.length c2, .slice o3 V.length c3] 26) (by simp)).more (.cells #[.int .i64 x] 3) (by simp)).more (.cells #[.int .i64 y] 3) (by simp))
          refine (HC.out _ (HT.out.below HG1.out.2.2) (HP.out.below HG1.out.2.2) (HV.out.below HG1.out.2.2)).mono ?_
          rintro e w1 ⟨rfl, hb⟩
          have HG1w1 := hide (HG1.out.on hb)
          clear hb HG1
          have lG1_0 := HG1w1.out.lt 0 w.heap.size (by simp) rfl
          have cG1_0_0 := HG1w1.out.cell 0 0 w.heap.size _ _ _ rfl rfl rfl
          have cG1_0_1 := HG1w1.out.cell 0 1 w.heap.size _ _ _ rfl rfl rfl
          have cG1_0_2 := HG1w1.out.cell 0 2 w.heap.size _ _ _ rfl rfl rfl
          have lG1_1 := HG1w1.out.lt 1 (w.heap.size + 1) (by simp) rfl
          have cG1_1_0 := HG1w1.out.cell 1 0 (w.heap.size + 1) _ _ _ rfl rfl rfl
          have lG1_2 := HG1w1.out.lt 2 (w.heap.size + 1 + 1) (by simp) rfl
          have cG1_2_0 := HG1w1.out.cell 2 0 (w.heap.size + 1 + 1) _ _ _ rfl rfl rfl
          go_wp2_with fail
          refine (HI.out _).mono ?_
          rintro e w2 ⟨rfl, rfl⟩
          go_wp2_with fail
          refine (HJ.out _).mono ?_
          rintro e w2 ⟨rfl, rfl⟩
          go_wp2_with fail
          refine (HN'.out (w.heap.size + 1) _ (HP.out.below HG1w1.out.2.2) (HV.out.below HG1w1.out.2.2) cG1_1_0 cG1_2_0).mono ?_
          rintro e w2 ⟨rfl, hb⟩
          have HG1w2 := hide (HG1w1.out.on hb)
          clear lG1_0 cG1_0_0 cG1_0_1 cG1_0_2 lG1_1 cG1_1_0 lG1_2 cG1_2_0
          clear hb HG1w1
          go_wp2_with fail
          go_ret2
          exact ⟨rfl, HG1w2.out.2.2.alloc HG1w2.out.2.2.size _⟩
  · have hX' : (X != 0) = true := by simpa using hX
    rw [if_pos hX] at hR
    subst hR
    clear hX HN HBd
    go_enter Try.func19, Try.ntmps19
    go_wp2_with fail
    have HG1 := hide ((((Blks.nil w).more (.cells #[.slice o1 T.length c1, .slice o2 P.length c2, .slice o3 V.length c3] 26) (by simp)).more (.cells #[.int .i64 x] 3) (by simp)).more (.cells #[.int .i64 y] 3) (by simp))
    refine (HC.out _ (HT.out.below HG1.out.2.2) (HP.out.below HG1.out.2.2) (HV.out.below HG1.out.2.2)).mono ?_
    rintro e w1 ⟨rfl, hb⟩
    have HG1w1 := hide (HG1.out.on hb)
    clear hb HG1
    have lG1_0 := HG1w1.out.lt 0 w.heap.size (by simp) rfl
    have cG1_0_0 := HG1w1.out.cell 0 0 w.heap.size _ _ _ rfl rfl rfl
    have cG1_0_1 := HG1w1.out.cell 0 1 w.heap.size _ _ _ rfl rfl rfl
    have cG1_0_2 := HG1w1.out.cell 0 2 w.heap.size _ _ _ rfl rfl rfl
    have lG1_1 := HG1w1.out.lt 1 (w.heap.size + 1) (by simp) rfl
    have cG1_1_0 := HG1w1.out.cell 1 0 (w.heap.size + 1) _ _ _ rfl rfl rfl
    have lG1_2 := HG1w1.out.lt 2 (w.heap.size + 1 + 1) (by simp) rfl
    have cG1_2_0 := HG1w1.out.cell 2 0 (w.heap.size + 1 + 1) _ _ _ rfl rfl rfl
    go_wp2_with fail
    go_ret2
    exact ⟨rfl, HG1w1.out.2.2⟩

theorem ridesV_ok {T : List TK} {P : List TP} {V : List Int} {id : Int} (h : (ridesV T P V id).2 = 0) : chkL T P V = 0 ∧ hasT T id = true := by
  unfold ridesV at h
  by_cases h1 : chkL T P V ≠ 0
  · rw [if_pos h1] at h; exact absurd h h1
  · refine ⟨by simpa using h1, ?_⟩
    rw [if_neg h1] at h
    cases h2 : hasT T id
    · rw [h2] at h; simp at h
    · rfl

theorem ridesV_fst {T : List TK} {P : List TP} {V : List Int} {id : Int} (h : (ridesV T P V id).2 = 0) : (ridesV T P V id).1 = ((ridesL (P.zip V) id).length : Int) ∧ (ridesL (P.zip V) id).length ≤ 60 := by
  obtain ⟨h1, h2⟩ := ridesV_ok h
  refine ⟨by unfold ridesV; rw [if_neg (by simp [h1]), if_pos h2], ?_⟩
  have := ridesL_len (P.zip V) id
  rw [List.length_zip] at this
  have := (chkL_right h1).2.1
  omega

theorem tikOf_at {T : List TK} {id : Int} (hr : Rising T) (h : hasT T id = true) : T[posT T id]? = some (tikOf T id) ∧ (tikOf T id).i = id ∧ idxT T id = posT T id := by
  obtain ⟨x, hx, e1, e2⟩ := hasT_pos hr h
  have : tikOf T id = x := by rw [tikOf, List.getD_eq_getElem?_getD, hx]; rfl
  rw [this]
  exact ⟨hx, e1, e2⟩

theorem chkK_rides {x : TK} (h : chkK x = 0) : 0 ≤ x.r ∧ x.r ≤ 9 := by
  unfold chkK chk at h
  by_cases h4 : ridesF x.k x.r = true
  · unfold ridesF at h4
    by_cases h3 : x.k = 3
    · rw [if_pos h3] at h4
      have := (wi_iff _ _ _).1 h4
      omega
    · rw [if_neg h3] at h4
      simp at h4
      omega
  · have h4' : ridesF x.k x.r = false := by simpa using h4
    rw [h4'] at h
    simp at h
    split at h
    · cases h
    · split at h
      · cases h
      · split at h
        · cases h
        · cases h

theorem allR_bound {x : TK} (h : chkK x = 0) : 0 ≤ allR x.k x.r ∧ allR x.k x.r ≤ 60 := by
  have := chkK_rides h
  unfold allR
  split
  · omega
  · split <;> omega

set_option maxHeartbeats 3200000 in
theorem leftA_any (T : List TK) (P : List TP) (V : List Int) (g : Int) (o1 o2 o3 : Option Addr) (c1 c2 c3 : Nat) (w : World) (hT : TiksAt w o1 T) (hP : TapsAt w o2 P) (hV : IntsAt w o3 V) (hlT : T.length ≤ 9223372036854775807) (hlP : P.length ≤ 9223372036854775807) (hlV : V.length ≤ 9223372036854775807)
    (hc2 : P.length ≤ c2) (hc3 : V.length ≤ c3) :
    Calls Try.prog 17 #[lg o1 o2 o3 T.length c1 P.length c2 V.length c3, .int .i64 g] w fun e w' => e = .returned (.tuple #[.int .i64 (leftV T P V g).1, .int .i64 (leftV T P V g).2]) ∧ Below w.heap.size w w' := by
  have HC := hide (fun W (h : TiksAt W o1 T) (h' : TapsAt W o2 P) (h'' : IntsAt W o3 V) => ridesLed_any T P V g o1 o2 o3 c1 c2 c3 W h h' h'' hlT hlP hlV hc2 hc3)
  have HI := hide (fun (B : Nat) W (h : TiksAt W o1 T) hc => indexL_any B g T o1 c1 W h hlT hc)
  have HA := hide (fun W => allRides_any (tikOf T g).i (tikOf T g).k (tikOf T g).f (tikOf T g).t (tikOf T g).z (tikOf T g).r W)
  have H0 := hide (fun (h0 : (ridesV T P V g).2 = 0) => And.intro (tikOf_at (rising_of (chkL_right (ridesV_ok h0).1).2.2.2.1) (ridesV_ok h0).2) (ridesV_fst h0))
  have HBd := hide (fun (h0 : (ridesV T P V g).2 = 0) => allR_bound (checked_of (chkL_right (ridesV_ok h0).1).2.2.2.1 _ (List.mem_of_getElem? (tikOf_at (rising_of (chkL_right (ridesV_ok h0).1).2.2.2.1) (ridesV_ok h0).2).1)))
  have HT := hide hT
  have HP := hide hP
  have HV := hide hV
  clear hT hP hV hlT hlP hlV hc2 hc3
  generalize hR : leftV T P V g = R
  unfold leftV at hR
  generalize allR (tikOf T g).k (tikOf T g).r = AR at *
  generalize (ridesV T P V g).1 = X1 at *
  generalize (ridesV T P V g).2 = X at *
  generalize tikOf T g = tx at *
  generalize posT T g = pos at *
  by_cases hX : X = 0
  · subst hX
    obtain ⟨⟨ht, hti, hid⟩, hx1, hx2⟩ := H0.out rfl
    obtain ⟨ha1, ha2⟩ := HBd.out rfl
    clear H0 HBd
    rw [if_pos rfl] at hR
    subst hR
    rw [hid] at HI
    generalize (ridesL (P.zip V) g).length = rl at *
    have HX1 := hide hx1
    have hx3 : 0 ≤ X1 ∧ X1 ≤ 60 := by omega
    obtain ⟨hx3, hx4⟩ := hx3
    have hpos := (List.getElem?_eq_some_iff.1 ht).1
    have HTt := hide ht
    clear ht hti hid hx1 hx2
    have hwr : IntKind.i64.wrap (AR - X1) = AR - X1 := by rw [IntKind.wrap_i64]; omega
    have hlc : (0 : Int) ≤ pos := by omega
    have hlc2 : (pos : Int) < T.length := by omega
    go_enter Try.func17, Try.ntmps17
    go_wp2_with fail
    have HG1 := hide (((Blks.nil w).more (.cells #[.slice o1 T.length c1, .slice o2 P.length c2, .slice o3 V.length c3] 26) (by simp)).more (.cells #[.int .i64 g] 3) (by simp))
    refine (HC.out _ (HT.out.below HG1.out.2.2) (HP.out.below HG1.out.2.2) (HV.out.below HG1.out.2.2)).mono ?_
    rintro e w1 ⟨rfl, hb⟩
    have HG1w1 := hide (HG1.out.on hb)
    clear hb HG1
    have lG1_0 := HG1w1.out.lt 0 w.heap.size (by simp) rfl
    have cG1_0_0 := HG1w1.out.cell 0 0 w.heap.size _ _ _ rfl rfl rfl
    have cG1_0_1 := HG1w1.out.cell 0 1 w.heap.size _ _ _ rfl rfl rfl
    have cG1_0_2 := HG1w1.out.cell 0 2 w.heap.size _ _ _ rfl rfl rfl
    have lG1_1 := HG1w1.out.lt 1 (w.heap.size + 1) (by simp) rfl
    have cG1_1_0 := HG1w1.out.cell 1 0 (w.heap.size + 1) _ _ _ rfl rfl rfl
    go_wp2_with fail
    refine (HI.out (w.heap.size + 1) _ (HT.out.below HG1w1.out.2.2) cG1_1_0).mono ?_
    rintro e w2 ⟨rfl, hb⟩
    have HG1w2 := hide (HG1w1.out.on hb)
    clear lG1_0 cG1_0_0 cG1_0_1 cG1_0_2 lG1_1 cG1_1_0
    clear hb HG1w1
    have lG1_0 := HG1w2.out.lt 0 w.heap.size (by simp) rfl
    have cG1_0_0 := HG1w2.out.cell 0 0 w.heap.size _ _ _ rfl rfl rfl
    have cG1_0_1 := HG1w2.out.cell 0 1 w.heap.size _ _ _ rfl rfl rfl
    have cG1_0_2 := HG1w2.out.cell 0 2 w.heap.size _ _ _ rfl rfl rfl
    have lG1_1 := HG1w2.out.lt 1 (w.heap.size + 1) (by simp) rfl
    have cG1_1_0 := HG1w2.out.cell 1 0 (w.heap.size + 1) _ _ _ rfl rfl rfl
    obtain ⟨A, rfl, e0, e1, e2, e3, e4, e5⟩ := (HT.out.below HG1w2.out.2.2) pos tx HTt.out
    go_wp2_with fail
    refine (HA.out _).mono ?_
    rintro e w3 ⟨rfl, hb⟩
    have HG1w3 := hide (HG1w2.out.on hb)
    clear lG1_0 cG1_0_0 cG1_0_1 cG1_0_2 lG1_1 cG1_1_0 e0 e1 e2 e3 e4 e5
    clear hb HG1w2
    go_wp2_with fail
    go_ret2
    exact ⟨rfl, HG1w3.out.2.2⟩
  · have hX' : (X != 0) = true := by simpa using hX
    rw [if_neg hX] at hR
    subst hR
    clear hX H0 HBd
    go_enter Try.func17, Try.ntmps17
    go_wp2_with fail
    have HG1 := hide (((Blks.nil w).more (.cells #[.slice o1 T.length c1, .slice o2 P.length c2, .slice o3 V.length c3] 26) (by simp)).more (.cells #[.int .i64 g] 3) (by simp))
    refine (HC.out _ (HT.out.below HG1.out.2.2) (HP.out.below HG1.out.2.2) (HV.out.below HG1.out.2.2)).mono ?_
    rintro e w1 ⟨rfl, hb⟩
    have HG1w1 := hide (HG1.out.on hb)
    clear hb HG1
    have lG1_0 := HG1w1.out.lt 0 w.heap.size (by simp) rfl
    have cG1_0_0 := HG1w1.out.cell 0 0 w.heap.size _ _ _ rfl rfl rfl
    have cG1_0_1 := HG1w1.out.cell 0 1 w.heap.size _ _ _ rfl rfl rfl
    have cG1_0_2 := HG1w1.out.cell 0 2 w.heap.size _ _ _ rfl rfl rfl
    have lG1_1 := HG1w1.out.lt 1 (w.heap.size + 1) (by simp) rfl
    have cG1_1_0 := HG1w1.out.cell 1 0 (w.heap.size + 1) _ _ _ rfl rfl rfl
    go_wp2_with fail
    go_ret2
    exact ⟨rfl, HG1w1.out.2.2⟩

theorem gateVv {w : World} {v : Value} {T : List TK} {P : List TP} {V : List Int} (h : LedV w v T P V) (hl : LensOk T P V) (x : Int) : Calls Try.prog 18 #[v, .int .i64 x] w fun e w' => e = .returned (.tuple #[.int .i64 (gateV T P V x).1, .int .i64 (gateV T P V x).2.1, .int .i64 (gateV T P V x).2.2]) ∧ Below w.heap.size w w' := by
  obtain ⟨o1, c1, o2, c2, o3, c3, rfl, a1, a2, a3, ⟨-, l2, l3⟩, -⟩ := h.opened
  exact gateA_any T P V x o1 o2 o3 c1 c2 c3 w a1 a2 a3 hl.1 hl.2.1 hl.2.2 l2 l3

theorem leftVv {w : World} {v : Value} {T : List TK} {P : List TP} {V : List Int} (h : LedV w v T P V) (hl : LensOk T P V) (x : Int) : Calls Try.prog 17 #[v, .int .i64 x] w fun e w' => e = .returned (.tuple #[.int .i64 (leftV T P V x).1, .int .i64 (leftV T P V x).2]) ∧ Below w.heap.size w w' := by
  obtain ⟨o1, c1, o2, c2, o3, c3, rfl, a1, a2, a3, ⟨-, l2, l3⟩, -⟩ := h.opened
  exact leftA_any T P V x o1 o2 o3 c1 c2 c3 w a1 a2 a3 hl.1 hl.2.1 hl.2.2 l2 l3

theorem betwVv {w : World} {v : Value} {T : List TK} {P : List TP} {V : List Int} (h : LedV w v T P V) (hl : LensOk T P V) (x y : Int) : Calls Try.prog 19 #[v, .int .i64 x, .int .i64 y] w fun e w' => e = .returned (.tuple #[.int .i64 (betwV T P V x y).1, .int .i64 (betwV T P V x y).2]) ∧ Below w.heap.size w w' := by
  obtain ⟨o1, c1, o2, c2, o3, c3, rfl, a1, a2, a3, ⟨-, l2, l3⟩, -⟩ := h.opened
  exact betwA_any T P V x y o1 o2 o3 c1 c2 c3 w a1 a2 a3 hl.1 hl.2.1 hl.2.2 l2 l3

end Go.Proofs.Ytcakfmpckbmdeae
