/-
  'EnterOf' (package leeboardref): taps that are judged.
-/
import Derived.Test.YtcakfmpckbmdeabU1
import Derived.Test.YtcakfmpckbmdeabH3
import Derived.Test.YtcakfmpckbmdeabH4
import Derived.Test.YtcakfmpckbmdeabS2
namespace Go.Proofs.Ytcakfmpckbmdeab
open Go.RowKit

set_option maxHeartbeats 6400000 in
set_option maxRecDepth 100000 in
theorem enterOf_judged (T : List TK) (P : List TP) (V : List Int) (a g s m z : Int) (o1 o2 o3 : Option Addr) (c1 c2 c3 : Nat) (w : World) (hT : TiksAt w o1 T) (hP : TapsAt w o2 P) (hV : IntsAt w o3 V) (hlT : T.length ≤ 12) (hlP : P.length ≤ 60) (hlv : V.length = P.length) (h : chkP a g s m z = 0) (k : Nat) (x : TK) (hi : idxT T a = k) (hx : T[k]? = some x) (hck : chkK x = 0) (hti : ∀ y ∈ P, 0 ≤ y.m ∧ y.m ≤ 9999) (htw : twiceT P ⟨a, g, s, m, z⟩ = false) (hno : P = [] ∨ ∃ n q, P.length = n + 1 ∧ P[n]? = some q ∧ ¬ m < q.m) (hJ : (judge x.k x.f x.t x.z x.r (many (P.zip V) a).2 (many (P.zip V) a).1 m z).2 ≠ 0) :
    Calls Try.prog 23 #[lg o1 o2 o3 T.length c1 P.length c2 V.length c3, tp a g s m z] w fun e w' => (∃ v, e = .returned (.tuple #[v, .int .i64 (judge x.k x.f x.t x.z x.r (many (P.zip V) a).2 (many (P.zip V) a).1 m z).1, .int .i64 (judge x.k x.f x.t x.z x.r (many (P.zip V) a).2 (many (P.zip V) a).1 m z).2]) ∧ LedV w' v [] [] []) ∧ Below w.heap.size w w' := by
  have HT := hide hT
  have HP := hide hP
  have HV := hide hV
  have HTX := hide hx
  have HX := hide (fun W => checkTap_any a g s m z W)
  have hzz := (chk_right (i := x.i) (k := x.k) (f := x.f) (t := x.t) (z := x.z) (r := x.r) hck).2.2.2.1
  have hkl := (List.getElem?_eq_some_iff.1 hx).1
  have hpz := (chkP_right h).2.2.2.2
  have hml := many_last (P.zip V) a (fun y hy => hti y.1 (List.of_mem_zip hy).1)
  have HJ := hide (fun W => judgeOf_any x.i x.k x.f x.t x.z x.r (many (P.zip V) a).2 (many (P.zip V) a).1 a g s m z W (by omega) (by omega) hpz hml.2 hml.1)
  have HM := hide (fun W (h : TapsAt W o2 P) (h' : IntsAt W o3 V) => manyOf_any o1 o2 o3 T.length c1 c2 c3 P V a P.length W h h' (Nat.le_refl _) (by omega) (by omega))
  rw [List.take_of_length_le (l := P.zip V) (by rw [List.length_zip]; omega)] at HM
  rw [h] at HX
  have HZ := hide (fun W (h : TapsAt W o2 P) => isTwice_any o2 c2 P P.length a g s m z W h (Nat.le_refl _) (by omega))
  rw [List.take_length] at HZ
  rw [htw] at HZ
  have HLV := hide hlv
  clear hT hP hV hx hck h htw hml hpz hzz hti hlv
  generalize (judge x.k x.f x.t x.z x.r (many (P.zip V) a).2 (many (P.zip V) a).1 m z) = J at *
  obtain ⟨J1, J2⟩ := J
  simp only [] at HJ hJ ⊢
  generalize (many (P.zip V) a).2 = M2 at *
  generalize (many (P.zip V) a).1 = M1 at *
  have hJ' : (J2 != 0) = true := by simpa using hJ
  clear hJ
  rcases hno with hP0 | ⟨n, q, hn, hq, hm⟩
  · have HP0 := hide hP0
    have hlz : P.length = 0 := by rw [hP0]; rfl
    rw [hlz] at hlP HZ HM ⊢
    clear hP0 hlz
    go_enter Try.func23, Try.ntmps23
    go_wp2_with fail
    have HG1 := hide ((((Blks.nil w).more (.cells #[.slice o1 T.length c1, .slice o2 0 c2, .slice o3 V.length c3] 43) (by simp)).more (.cells #[.int .i64 a, .int .i64 g, .int .i64 s, .int .i64 m, .int .i64 z] 32) (by simp)).more (.cells #[.slice none 0 0, .slice none 0 0, .slice none 0 0] 43) (by simp))
    refine (HX.out _).mono ?_
    rintro e w1 ⟨rfl, hb⟩
    have HG1w1 := hide (HG1.out.on hb)
    clear hb HG1
    have lG1_0 := HG1w1.out.lt 0 w.heap.size (by simp) rfl
    have cG1_0_0 := HG1w1.out.cell 0 0 w.heap.size _ _ _ rfl rfl rfl
    have cG1_0_1 := HG1w1.out.cell 0 1 w.heap.size _ _ _ rfl rfl rfl
    have cG1_0_2 := HG1w1.out.cell 0 2 w.heap.size _ _ _ rfl rfl rfl
    have lG1_1 := HG1w1.out.lt 1 (w.heap.size + 1) (by simp) rfl
    have cG1_1_0 := HG1w1.out.cell 1 0 (w.heap.size + 1) _ _ _ rfl rfl rfl
    have cG1_1_1 := HG1w1.out.cell 1 1 (w.heap.size + 1) _ _ _ rfl rfl rfl
    have cG1_1_2 := HG1w1.out.cell 1 2 (w.heap.size + 1) _ _ _ rfl rfl rfl
    have cG1_1_3 := HG1w1.out.cell 1 3 (w.heap.size + 1) _ _ _ rfl rfl rfl
    have cG1_1_4 := HG1w1.out.cell 1 4 (w.heap.size + 1) _ _ _ rfl rfl rfl
    have lG1_2 := HG1w1.out.lt 2 (w.heap.size + 1 + 1) (by simp) rfl
    have cG1_2_0 := HG1w1.out.cell 2 0 (w.heap.size + 1 + 1) _ _ _ rfl rfl rfl
    have fG1_2_0 := HG1w1.out.frozen 2 0 (w.heap.size + 1 + 1) _ _ rfl rfl
    have cG1_2_1 := HG1w1.out.cell 2 1 (w.heap.size + 1 + 1) _ _ _ rfl rfl rfl
    have fG1_2_1 := HG1w1.out.frozen 2 1 (w.heap.size + 1 + 1) _ _ rfl rfl
    have cG1_2_2 := HG1w1.out.cell 2 2 (w.heap.size + 1 + 1) _ _ _ rfl rfl rfl
    have fG1_2_2 := HG1w1.out.frozen 2 2 (w.heap.size + 1 + 1) _ _ rfl rfl
    go_wp2_with fail
    refine (ticketAt_any o1 _ T _ _ (HT.out.below HG1w1.out.2.2) (by omega)).mono ?_
    rintro e w1' ⟨rfl, hw1⟩
    obtain rfl := hw1.symm
    clear hw1
    rw [hi]
    have hk0 : ¬ ((k : Int) < 0) := by omega
    go_wp2_with fail
    refine (HZ.out _ (HP.out.below HG1w1.out.2.2)).mono ?_
    rintro e w2 ⟨rfl, hb⟩
    have HG1w2 := hide (HG1w1.out.on hb)
    clear lG1_0 cG1_0_0 cG1_0_1 cG1_0_2 lG1_1 cG1_1_0 cG1_1_1 cG1_1_2 cG1_1_3 cG1_1_4 lG1_2 cG1_2_0 fG1_2_0 cG1_2_1 fG1_2_1 cG1_2_2 fG1_2_2
    clear hb HG1w1
    have lG1_0 := HG1w2.out.lt 0 w.heap.size (by simp) rfl
    have cG1_0_0 := HG1w2.out.cell 0 0 w.heap.size _ _ _ rfl rfl rfl
    have cG1_0_1 := HG1w2.out.cell 0 1 w.heap.size _ _ _ rfl rfl rfl
    have cG1_0_2 := HG1w2.out.cell 0 2 w.heap.size _ _ _ rfl rfl rfl
    have lG1_1 := HG1w2.out.lt 1 (w.heap.size + 1) (by simp) rfl
    have cG1_1_0 := HG1w2.out.cell 1 0 (w.heap.size + 1) _ _ _ rfl rfl rfl
    have cG1_1_1 := HG1w2.out.cell 1 1 (w.heap.size + 1) _ _ _ rfl rfl rfl
    have cG1_1_2 := HG1w2.out.cell 1 2 (w.heap.size + 1) _ _ _ rfl rfl rfl
    have cG1_1_3 := HG1w2.out.cell 1 3 (w.heap.size + 1) _ _ _ rfl rfl rfl
    have cG1_1_4 := HG1w2.out.cell 1 4 (w.heap.size + 1) _ _ _ rfl rfl rfl
    have lG1_2 := HG1w2.out.lt 2 (w.heap.size + 1 + 1) (by simp) rfl
    have cG1_2_0 := HG1w2.out.cell 2 0 (w.heap.size + 1 + 1) _ _ _ rfl rfl rfl
    have fG1_2_0 := HG1w2.out.frozen 2 0 (w.heap.size + 1 + 1) _ _ rfl rfl
    have cG1_2_1 := HG1w2.out.cell 2 1 (w.heap.size + 1 + 1) _ _ _ rfl rfl rfl
    have fG1_2_1 := HG1w2.out.frozen 2 1 (w.heap.size + 1 + 1) _ _ rfl rfl
    have cG1_2_2 := HG1w2.out.cell 2 2 (w.heap.size + 1 + 1) _ _ _ rfl rfl rfl
    have fG1_2_2 := HG1w2.out.frozen 2 2 (w.heap.size + 1 + 1) _ _ rfl rfl
    go_wp2_with fail
    go_region
    go_wp2_with fail
    refine (HM.out _ (HP.out.below HG1w2.out.2.2.drew) (HV.out.below HG1w2.out.2.2.drew)).mono ?_
    rintro e w3 ⟨rfl, hb⟩
    have HG1w3 := hide ((HG1w2.out.on ((Below.refl _ _).drew)).on hb)
    clear lG1_0 cG1_0_0 cG1_0_1 cG1_0_2 lG1_1 cG1_1_0 cG1_1_1 cG1_1_2 cG1_1_3 cG1_1_4 lG1_2 cG1_2_0 fG1_2_0 cG1_2_1 fG1_2_1 cG1_2_2 fG1_2_2
    clear hb HG1w2
    have lG1_0 := HG1w3.out.lt 0 w.heap.size (by simp) rfl
    have cG1_0_0 := HG1w3.out.cell 0 0 w.heap.size _ _ _ rfl rfl rfl
    have cG1_0_1 := HG1w3.out.cell 0 1 w.heap.size _ _ _ rfl rfl rfl
    have cG1_0_2 := HG1w3.out.cell 0 2 w.heap.size _ _ _ rfl rfl rfl
    have lG1_1 := HG1w3.out.lt 1 (w.heap.size + 1) (by simp) rfl
    have cG1_1_0 := HG1w3.out.cell 1 0 (w.heap.size + 1) _ _ _ rfl rfl rfl
    have cG1_1_1 := HG1w3.out.cell 1 1 (w.heap.size + 1) _ _ _ rfl rfl rfl
    have cG1_1_2 := HG1w3.out.cell 1 2 (w.heap.size + 1) _ _ _ rfl rfl rfl
    have cG1_1_3 := HG1w3.out.cell 1 3 (w.heap.size + 1) _ _ _ rfl rfl rfl
    have cG1_1_4 := HG1w3.out.cell 1 4 (w.heap.size + 1) _ _ _ rfl rfl rfl
    have lG1_2 := HG1w3.out.lt 2 (w.heap.size + 1 + 1) (by simp) rfl
    have cG1_2_0 := HG1w3.out.cell 2 0 (w.heap.size + 1 + 1) _ _ _ rfl rfl rfl
    have cG1_2_1 := HG1w3.out.cell 2 1 (w.heap.size + 1 + 1) _ _ _ rfl rfl rfl
    have cG1_2_2 := HG1w3.out.cell 2 2 (w.heap.size + 1 + 1) _ _ _ rfl rfl rfl
    obtain ⟨Bt, hBt, k0, k1, k2, k3, k4, k5⟩ := (HT.out.below HG1w3.out.2.2) k x HTX.out
    subst hBt
    go_wp2_with fail
    have q0 := cell_regrown cG1_0_0
    have q1 := cell_regrown cG1_0_1
    have q2 := cell_regrown cG1_0_2
    have q3 := cell_regrown cG1_1_0
    have q4 := cell_regrown cG1_1_1
    have q5 := cell_regrown cG1_1_2
    have q6 := cell_regrown cG1_1_3
    have q7 := cell_regrown cG1_1_4
    have q8 := cell_regrown k0
    have q9 := cell_regrown k1
    have q10 := cell_regrown k2
    have q11 := cell_regrown k3
    have q12 := cell_regrown k4
    have q13 := cell_regrown k5
    have cJ : ∀ d os, Calls Try.prog 14 #[tk x.i x.k x.f x.t x.z x.r, .int .i64 M2, .int .i64 M1, tp a g s m z] (Sort.grow (redrawn w3 d) os) fun e w'' => e = .returned (.tuple #[.int .i64 J1, .int .i64 J2]) ∧ ∃ p : Regrown, w'' = Sort.grow (redrawn w3 p.d) p.os :=
      fun d os => Calls.regrown_of (HJ.out _)
    refine wp_region_quiet_below (by kernel_rfl) (by kernel_rfl) ?_
    repeat (quiet_step (exact cJ _ _))
    refine wpQuiet_nil ?_
    intro _ hw'
    obtain ⟨⟨dq, osq⟩, hw''⟩ := hw'
    subst hw''
    have hbw := below_regrown w3 dq osq
    have HG1w4 := hide (HG1w3.out.on hbw)
    clear lG1_0 cG1_0_0 cG1_0_1 cG1_0_2 lG1_1 cG1_1_0 cG1_1_1 cG1_1_2 cG1_1_3 cG1_1_4 lG1_2 cG1_2_0 cG1_2_1 cG1_2_2
    clear hbw HG1w3 cJ k0 k1 k2 k3 k4 k5 q0 q1 q2 q3 q4 q5 q6 q7 q8 q9 q10 q11 q12 q13
    generalize Sort.grow (redrawn w3 dq) osq = w4 at *
    have lG1_0 := HG1w4.out.lt 0 w.heap.size (by simp) rfl
    have cG1_0_0 := HG1w4.out.cell 0 0 w.heap.size _ _ _ rfl rfl rfl
    have cG1_0_1 := HG1w4.out.cell 0 1 w.heap.size _ _ _ rfl rfl rfl
    have cG1_0_2 := HG1w4.out.cell 0 2 w.heap.size _ _ _ rfl rfl rfl
    have lG1_1 := HG1w4.out.lt 1 (w.heap.size + 1) (by simp) rfl
    have cG1_1_0 := HG1w4.out.cell 1 0 (w.heap.size + 1) _ _ _ rfl rfl rfl
    have cG1_1_1 := HG1w4.out.cell 1 1 (w.heap.size + 1) _ _ _ rfl rfl rfl
    have cG1_1_2 := HG1w4.out.cell 1 2 (w.heap.size + 1) _ _ _ rfl rfl rfl
    have cG1_1_3 := HG1w4.out.cell 1 3 (w.heap.size + 1) _ _ _ rfl rfl rfl
    have cG1_1_4 := HG1w4.out.cell 1 4 (w.heap.size + 1) _ _ _ rfl rfl rfl
    have lG1_2 := HG1w4.out.lt 2 (w.heap.size + 1 + 1) (by simp) rfl
    have cG1_2_0 := HG1w4.out.cell 2 0 (w.heap.size + 1 + 1) _ _ _ rfl rfl rfl
    have fG1_2_0 := HG1w4.out.frozen 2 0 (w.heap.size + 1 + 1) _ _ rfl rfl
    have cG1_2_1 := HG1w4.out.cell 2 1 (w.heap.size + 1 + 1) _ _ _ rfl rfl rfl
    have fG1_2_1 := HG1w4.out.frozen 2 1 (w.heap.size + 1 + 1) _ _ rfl rfl
    have cG1_2_2 := HG1w4.out.cell 2 2 (w.heap.size + 1 + 1) _ _ _ rfl rfl rfl
    have fG1_2_2 := HG1w4.out.frozen 2 2 (w.heap.size + 1 + 1) _ _ rfl rfl
    go_wp2_with fail
    refine bodyPost_ret (v := .tuple #[lg none none none 0 0 0 0 0 0, .int .i64 J1, .int .i64 J2]) (by simp [results, Try.results23, go_sem, *]) rfl ⟨⟨_, rfl, ledV_none _⟩, ?_⟩
    repeat (first | with_reducible refine Below.setCell ?_ (by simp; try omega) _ | exact HG1w4.out.2.2)
  · have HQ := hide hq
    have hmm : ¬ m < q.m := hm
    have HN := hide hn
    rw [hn] at hlP HZ HM ⊢
    clear hq hn hm
    go_enter Try.func23, Try.ntmps23
    go_wp2_with fail
    have HG1 := hide ((((Blks.nil w).more (.cells #[.slice o1 T.length c1, .slice o2 (n + 1) c2, .slice o3 V.length c3] 43) (by simp)).more (.cells #[.int .i64 a, .int .i64 g, .int .i64 s, .int .i64 m, .int .i64 z] 32) (by simp)).more (.cells #[.slice none 0 0, .slice none 0 0, .slice none 0 0] 43) (by simp))
    refine (HX.out _).mono ?_
    rintro e w1 ⟨rfl, hb⟩
    have HG1w1 := hide (HG1.out.on hb)
    clear hb HG1
    have lG1_0 := HG1w1.out.lt 0 w.heap.size (by simp) rfl
    have cG1_0_0 := HG1w1.out.cell 0 0 w.heap.size _ _ _ rfl rfl rfl
    have cG1_0_1 := HG1w1.out.cell 0 1 w.heap.size _ _ _ rfl rfl rfl
    have cG1_0_2 := HG1w1.out.cell 0 2 w.heap.size _ _ _ rfl rfl rfl
    have lG1_1 := HG1w1.out.lt 1 (w.heap.size + 1) (by simp) rfl
    have cG1_1_0 := HG1w1.out.cell 1 0 (w.heap.size + 1) _ _ _ rfl rfl rfl
    have cG1_1_1 := HG1w1.out.cell 1 1 (w.heap.size + 1) _ _ _ rfl rfl rfl
    have cG1_1_2 := HG1w1.out.cell 1 2 (w.heap.size + 1) _ _ _ rfl rfl rfl
    have cG1_1_3 := HG1w1.out.cell 1 3 (w.heap.size + 1) _ _ _ rfl rfl rfl
    have cG1_1_4 := HG1w1.out.cell 1 4 (w.heap.size + 1) _ _ _ rfl rfl rfl
    have lG1_2 := HG1w1.out.lt 2 (w.heap.size + 1 + 1) (by simp) rfl
    have cG1_2_0 := HG1w1.out.cell 2 0 (w.heap.size + 1 + 1) _ _ _ rfl rfl rfl
    have fG1_2_0 := HG1w1.out.frozen 2 0 (w.heap.size + 1 + 1) _ _ rfl rfl
    have cG1_2_1 := HG1w1.out.cell 2 1 (w.heap.size + 1 + 1) _ _ _ rfl rfl rfl
    have fG1_2_1 := HG1w1.out.frozen 2 1 (w.heap.size + 1 + 1) _ _ rfl rfl
    have cG1_2_2 := HG1w1.out.cell 2 2 (w.heap.size + 1 + 1) _ _ _ rfl rfl rfl
    have fG1_2_2 := HG1w1.out.frozen 2 2 (w.heap.size + 1 + 1) _ _ rfl rfl
    go_wp2_with fail
    refine (ticketAt_any o1 _ T _ _ (HT.out.below HG1w1.out.2.2) (by omega)).mono ?_
    rintro e w1' ⟨rfl, hw1⟩
    obtain rfl := hw1.symm
    clear hw1
    rw [hi]
    have hk0 : ¬ ((k : Int) < 0) := by omega
    go_wp2_with fail
    refine (HZ.out _ (HP.out.below HG1w1.out.2.2)).mono ?_
    rintro e w2 ⟨rfl, hb⟩
    have HG1w2 := hide (HG1w1.out.on hb)
    clear lG1_0 cG1_0_0 cG1_0_1 cG1_0_2 lG1_1 cG1_1_0 cG1_1_1 cG1_1_2 cG1_1_3 cG1_1_4 lG1_2 cG1_2_0 fG1_2_0 cG1_2_1 fG1_2_1 cG1_2_2 fG1_2_2
    clear hb HG1w1
    have lG1_0 := HG1w2.out.lt 0 w.heap.size (by simp) rfl
    have cG1_0_0 := HG1w2.out.cell 0 0 w.heap.size _ _ _ rfl rfl rfl
    have cG1_0_1 := HG1w2.out.cell 0 1 w.heap.size _ _ _ rfl rfl rfl
    have cG1_0_2 := HG1w2.out.cell 0 2 w.heap.size _ _ _ rfl rfl rfl
    have lG1_1 := HG1w2.out.lt 1 (w.heap.size + 1) (by simp) rfl
    have cG1_1_0 := HG1w2.out.cell 1 0 (w.heap.size + 1) _ _ _ rfl rfl rfl
    have cG1_1_1 := HG1w2.out.cell 1 1 (w.heap.size + 1) _ _ _ rfl rfl rfl
    have cG1_1_2 := HG1w2.out.cell 1 2 (w.heap.size + 1) _ _ _ rfl rfl rfl
    have cG1_1_3 := HG1w2.out.cell 1 3 (w.heap.size + 1) _ _ _ rfl rfl rfl
    have cG1_1_4 := HG1w2.out.cell 1 4 (w.heap.size + 1) _ _ _ rfl rfl rfl
    have lG1_2 := HG1w2.out.lt 2 (w.heap.size + 1 + 1) (by simp) rfl
    have cG1_2_0 := HG1w2.out.cell 2 0 (w.heap.size + 1 + 1) _ _ _ rfl rfl rfl
    have fG1_2_0 := HG1w2.out.frozen 2 0 (w.heap.size + 1 + 1) _ _ rfl rfl
    have cG1_2_1 := HG1w2.out.cell 2 1 (w.heap.size + 1 + 1) _ _ _ rfl rfl rfl
    have fG1_2_1 := HG1w2.out.frozen 2 1 (w.heap.size + 1 + 1) _ _ rfl rfl
    have cG1_2_2 := HG1w2.out.cell 2 2 (w.heap.size + 1 + 1) _ _ _ rfl rfl rfl
    have fG1_2_2 := HG1w2.out.frozen 2 2 (w.heap.size + 1 + 1) _ _ rfl rfl
    obtain ⟨A, rfl, e0, e1, e2, e3, e4⟩ := (HP.out.below HG1w2.out.2.2) n q HQ.out
    go_wp2_with fail
    go_region
    go_wp2_with fail
    refine (HM.out _ (HP.out.below HG1w2.out.2.2.drew) (HV.out.below HG1w2.out.2.2.drew)).mono ?_
    rintro e w3 ⟨rfl, hb⟩
    have HG1w3 := hide ((HG1w2.out.on ((Below.refl _ _).drew)).on hb)
    clear lG1_0 cG1_0_0 cG1_0_1 cG1_0_2 lG1_1 cG1_1_0 cG1_1_1 cG1_1_2 cG1_1_3 cG1_1_4 lG1_2 cG1_2_0 fG1_2_0 cG1_2_1 fG1_2_1 cG1_2_2 fG1_2_2 e0 e1 e2 e3 e4
    clear hb HG1w2
    have lG1_0 := HG1w3.out.lt 0 w.heap.size (by simp) rfl
    have cG1_0_0 := HG1w3.out.cell 0 0 w.heap.size _ _ _ rfl rfl rfl
    have cG1_0_1 := HG1w3.out.cell 0 1 w.heap.size _ _ _ rfl rfl rfl
    have cG1_0_2 := HG1w3.out.cell 0 2 w.heap.size _ _ _ rfl rfl rfl
    have lG1_1 := HG1w3.out.lt 1 (w.heap.size + 1) (by simp) rfl
    have cG1_1_0 := HG1w3.out.cell 1 0 (w.heap.size + 1) _ _ _ rfl rfl rfl
    have cG1_1_1 := HG1w3.out.cell 1 1 (w.heap.size + 1) _ _ _ rfl rfl rfl
    have cG1_1_2 := HG1w3.out.cell 1 2 (w.heap.size + 1) _ _ _ rfl rfl rfl
    have cG1_1_3 := HG1w3.out.cell 1 3 (w.heap.size + 1) _ _ _ rfl rfl rfl
    have cG1_1_4 := HG1w3.out.cell 1 4 (w.heap.size + 1) _ _ _ rfl rfl rfl
    have lG1_2 := HG1w3.out.lt 2 (w.heap.size + 1 + 1) (by simp) rfl
    have cG1_2_0 := HG1w3.out.cell 2 0 (w.heap.size + 1 + 1) _ _ _ rfl rfl rfl
    have cG1_2_1 := HG1w3.out.cell 2 1 (w.heap.size + 1 + 1) _ _ _ rfl rfl rfl
    have cG1_2_2 := HG1w3.out.cell 2 2 (w.heap.size + 1 + 1) _ _ _ rfl rfl rfl
    obtain ⟨Bt, hBt, k0, k1, k2, k3, k4, k5⟩ := (HT.out.below HG1w3.out.2.2) k x HTX.out
    subst hBt
    go_wp2_with fail
    have q0 := cell_regrown cG1_0_0
    have q1 := cell_regrown cG1_0_1
    have q2 := cell_regrown cG1_0_2
    have q3 := cell_regrown cG1_1_0
    have q4 := cell_regrown cG1_1_1
    have q5 := cell_regrown cG1_1_2
    have q6 := cell_regrown cG1_1_3
    have q7 := cell_regrown cG1_1_4
    have q8 := cell_regrown k0
    have q9 := cell_regrown k1
    have q10 := cell_regrown k2
    have q11 := cell_regrown k3
    have q12 := cell_regrown k4
    have q13 := cell_regrown k5
    have cJ : ∀ d os, Calls Try.prog 14 #[tk x.i x.k x.f x.t x.z x.r, .int .i64 M2, .int .i64 M1, tp a g s m z] (Sort.grow (redrawn w3 d) os) fun e w'' => e = .returned (.tuple #[.int .i64 J1, .int .i64 J2]) ∧ ∃ p : Regrown, w'' = Sort.grow (redrawn w3 p.d) p.os :=
      fun d os => Calls.regrown_of (HJ.out _)
    refine wp_region_quiet_below (by kernel_rfl) (by kernel_rfl) ?_
    repeat (quiet_step (exact cJ _ _))
    refine wpQuiet_nil ?_
    intro _ hw'
    obtain ⟨⟨dq, osq⟩, hw''⟩ := hw'
    subst hw''
    have hbw := below_regrown w3 dq osq
    have HG1w4 := hide (HG1w3.out.on hbw)
    clear lG1_0 cG1_0_0 cG1_0_1 cG1_0_2 lG1_1 cG1_1_0 cG1_1_1 cG1_1_2 cG1_1_3 cG1_1_4 lG1_2 cG1_2_0 cG1_2_1 cG1_2_2
    clear hbw HG1w3 cJ k0 k1 k2 k3 k4 k5 q0 q1 q2 q3 q4 q5 q6 q7 q8 q9 q10 q11 q12 q13
    generalize Sort.grow (redrawn w3 dq) osq = w4 at *
    have lG1_0 := HG1w4.out.lt 0 w.heap.size (by simp) rfl
    have cG1_0_0 := HG1w4.out.cell 0 0 w.heap.size _ _ _ rfl rfl rfl
    have cG1_0_1 := HG1w4.out.cell 0 1 w.heap.size _ _ _ rfl rfl rfl
    have cG1_0_2 := HG1w4.out.cell 0 2 w.heap.size _ _ _ rfl rfl rfl
    have lG1_1 := HG1w4.out.lt 1 (w.heap.size + 1) (by simp) rfl
    have cG1_1_0 := HG1w4.out.cell 1 0 (w.heap.size + 1) _ _ _ rfl rfl rfl
    have cG1_1_1 := HG1w4.out.cell 1 1 (w.heap.size + 1) _ _ _ rfl rfl rfl
    have cG1_1_2 := HG1w4.out.cell 1 2 (w.heap.size + 1) _ _ _ rfl rfl rfl
    have cG1_1_3 := HG1w4.out.cell 1 3 (w.heap.size + 1) _ _ _ rfl rfl rfl
    have cG1_1_4 := HG1w4.out.cell 1 4 (w.heap.size + 1) _ _ _ rfl rfl rfl
    have lG1_2 := HG1w4.out.lt 2 (w.heap.size + 1 + 1) (by simp) rfl
    have cG1_2_0 := HG1w4.out.cell 2 0 (w.heap.size + 1 + 1) _ _ _ rfl rfl rfl
    have fG1_2_0 := HG1w4.out.frozen 2 0 (w.heap.size + 1 + 1) _ _ rfl rfl
    have cG1_2_1 := HG1w4.out.cell 2 1 (w.heap.size + 1 + 1) _ _ _ rfl rfl rfl
    have fG1_2_1 := HG1w4.out.frozen 2 1 (w.heap.size + 1 + 1) _ _ rfl rfl
    have cG1_2_2 := HG1w4.out.cell 2 2 (w.heap.size + 1 + 1) _ _ _ rfl rfl rfl
    have fG1_2_2 := HG1w4.out.frozen 2 2 (w.heap.size + 1 + 1) _ _ rfl rfl
    go_wp2_with fail
    refine bodyPost_ret (v := .tuple #[lg none none none 0 0 0 0 0 0, .int .i64 J1, .int .i64 J2]) (by simp [results, Try.results23, go_sem, *]) rfl ⟨⟨_, rfl, ledV_none _⟩, ?_⟩
    repeat (first | with_reducible refine Below.setCell ?_ (by simp; try omega) _ | exact HG1w4.out.2.2)

set_option maxHeartbeats 6400000 in
set_option maxRecDepth 100000 in
theorem enterOf_full (T : List TK) (P : List TP) (V : List Int) (a g s m z : Int) (o1 o2 o3 : Option Addr) (c1 c2 c3 : Nat) (w : World) (hT : TiksAt w o1 T) (hP : TapsAt w o2 P) (hV : IntsAt w o3 V) (hlT : T.length ≤ 12) (hlP : P.length ≤ 60) (hlv : V.length = P.length) (h : chkP a g s m z = 0) (k : Nat) (x : TK) (hi : idxT T a = k) (hx : T[k]? = some x) (hck : chkK x = 0) (hti : ∀ y ∈ P, 0 ≤ y.m ∧ y.m ≤ 9999) (htw : twiceT P ⟨a, g, s, m, z⟩ = false) (hno : P = [] ∨ ∃ n q, P.length = n + 1 ∧ P[n]? = some q ∧ ¬ m < q.m) (hJ : (judge x.k x.f x.t x.z x.r (many (P.zip V) a).2 (many (P.zip V) a).1 m z).2 = 0) (h60 : P.length = 60) :
    Calls Try.prog 23 #[lg o1 o2 o3 T.length c1 P.length c2 V.length c3, tp a g s m z] w fun e w' => (∃ v, e = .returned (.tuple #[v, .int .i64 0, .int .i64 2]) ∧ LedV w' v [] [] []) ∧ Below w.heap.size w w' := by
  have HT := hide hT
  have HP := hide hP
  have HV := hide hV
  have HTX := hide hx
  have HX := hide (fun W => checkTap_any a g s m z W)
  have hzz := (chk_right (i := x.i) (k := x.k) (f := x.f) (t := x.t) (z := x.z) (r := x.r) hck).2.2.2.1
  have hkl := (List.getElem?_eq_some_iff.1 hx).1
  have hpz := (chkP_right h).2.2.2.2
  have hml := many_last (P.zip V) a (fun y hy => hti y.1 (List.of_mem_zip hy).1)
  have HJ := hide (fun W => judgeOf_any x.i x.k x.f x.t x.z x.r (many (P.zip V) a).2 (many (P.zip V) a).1 a g s m z W (by omega) (by omega) hpz hml.2 hml.1)
  have HM := hide (fun W (h : TapsAt W o2 P) (h' : IntsAt W o3 V) => manyOf_any o1 o2 o3 T.length c1 c2 c3 P V a P.length W h h' (Nat.le_refl _) (by omega) (by omega))
  rw [List.take_of_length_le (l := P.zip V) (by rw [List.length_zip]; omega)] at HM
  rw [h] at HX
  have HZ := hide (fun W (h : TapsAt W o2 P) => isTwice_any o2 c2 P P.length a g s m z W h (Nat.le_refl _) (by omega))
  rw [List.take_length] at HZ
  rw [htw] at HZ
  have HLV := hide hlv
  clear hT hP hV hx hck h htw hml hpz hzz hti hlv
  generalize (judge x.k x.f x.t x.z x.r (many (P.zip V) a).2 (many (P.zip V) a).1 m z) = J at *
  obtain ⟨J1, J2⟩ := J
  simp only [] at HJ hJ ⊢
  generalize (many (P.zip V) a).2 = M2 at *
  generalize (many (P.zip V) a).1 = M1 at *
  subst hJ
  rcases hno with hP0 | ⟨n, q, hn, hq, hm⟩
  · rw [hP0] at h60
    cases h60
  · have HQ := hide hq
    have hmm : ¬ m < q.m := hm
    rw [hn] at hlP HZ HM h60 ⊢
    have h60' : ((n : Int) + 1 == 60) = true := by simp; omega
    clear hq hn hm h60
    go_enter Try.func23, Try.ntmps23
    go_wp2_with fail
    have HG1 := hide ((((Blks.nil w).more (.cells #[.slice o1 T.length c1, .slice o2 (n + 1) c2, .slice o3 V.length c3] 43) (by simp)).more (.cells #[.int .i64 a, .int .i64 g, .int .i64 s, .int .i64 m, .int .i64 z] 32) (by simp)).more (.cells #[.slice none 0 0, .slice none 0 0, .slice none 0 0] 43) (by simp))
    refine (HX.out _).mono ?_
    rintro e w1 ⟨rfl, hb⟩
    have HG1w1 := hide (HG1.out.on hb)
    clear hb HG1
    have lG1_0 := HG1w1.out.lt 0 w.heap.size (by simp) rfl
    have cG1_0_0 := HG1w1.out.cell 0 0 w.heap.size _ _ _ rfl rfl rfl
    have cG1_0_1 := HG1w1.out.cell 0 1 w.heap.size _ _ _ rfl rfl rfl
    have cG1_0_2 := HG1w1.out.cell 0 2 w.heap.size _ _ _ rfl rfl rfl
    have lG1_1 := HG1w1.out.lt 1 (w.heap.size + 1) (by simp) rfl
    have cG1_1_0 := HG1w1.out.cell 1 0 (w.heap.size + 1) _ _ _ rfl rfl rfl
    have cG1_1_1 := HG1w1.out.cell 1 1 (w.heap.size + 1) _ _ _ rfl rfl rfl
    have cG1_1_2 := HG1w1.out.cell 1 2 (w.heap.size + 1) _ _ _ rfl rfl rfl
    have cG1_1_3 := HG1w1.out.cell 1 3 (w.heap.size + 1) _ _ _ rfl rfl rfl
    have cG1_1_4 := HG1w1.out.cell 1 4 (w.heap.size + 1) _ _ _ rfl rfl rfl
    have lG1_2 := HG1w1.out.lt 2 (w.heap.size + 1 + 1) (by simp) rfl
    have cG1_2_0 := HG1w1.out.cell 2 0 (w.heap.size + 1 + 1) _ _ _ rfl rfl rfl
    have fG1_2_0 := HG1w1.out.frozen 2 0 (w.heap.size + 1 + 1) _ _ rfl rfl
    have cG1_2_1 := HG1w1.out.cell 2 1 (w.heap.size + 1 + 1) _ _ _ rfl rfl rfl
    have fG1_2_1 := HG1w1.out.frozen 2 1 (w.heap.size + 1 + 1) _ _ rfl rfl
    have cG1_2_2 := HG1w1.out.cell 2 2 (w.heap.size + 1 + 1) _ _ _ rfl rfl rfl
    have fG1_2_2 := HG1w1.out.frozen 2 2 (w.heap.size + 1 + 1) _ _ rfl rfl
    go_wp2_with fail
    refine (ticketAt_any o1 _ T _ _ (HT.out.below HG1w1.out.2.2) (by omega)).mono ?_
    rintro e w1' ⟨rfl, hw1⟩
    obtain rfl := hw1.symm
    clear hw1
    rw [hi]
    have hk0 : ¬ ((k : Int) < 0) := by omega
    go_wp2_with fail
    refine (HZ.out _ (HP.out.below HG1w1.out.2.2)).mono ?_
    rintro e w2 ⟨rfl, hb⟩
    have HG1w2 := hide (HG1w1.out.on hb)
    clear lG1_0 cG1_0_0 cG1_0_1 cG1_0_2 lG1_1 cG1_1_0 cG1_1_1 cG1_1_2 cG1_1_3 cG1_1_4 lG1_2 cG1_2_0 fG1_2_0 cG1_2_1 fG1_2_1 cG1_2_2 fG1_2_2
    clear hb HG1w1
    have lG1_0 := HG1w2.out.lt 0 w.heap.size (by simp) rfl
    have cG1_0_0 := HG1w2.out.cell 0 0 w.heap.size _ _ _ rfl rfl rfl
    have cG1_0_1 := HG1w2.out.cell 0 1 w.heap.size _ _ _ rfl rfl rfl
    have cG1_0_2 := HG1w2.out.cell 0 2 w.heap.size _ _ _ rfl rfl rfl
    have lG1_1 := HG1w2.out.lt 1 (w.heap.size + 1) (by simp) rfl
    have cG1_1_0 := HG1w2.out.cell 1 0 (w.heap.size + 1) _ _ _ rfl rfl rfl
    have cG1_1_1 := HG1w2.out.cell 1 1 (w.heap.size + 1) _ _ _ rfl rfl rfl
    have cG1_1_2 := HG1w2.out.cell 1 2 (w.heap.size + 1) _ _ _ rfl rfl rfl
    have cG1_1_3 := HG1w2.out.cell 1 3 (w.heap.size + 1) _ _ _ rfl rfl rfl
    have cG1_1_4 := HG1w2.out.cell 1 4 (w.heap.size + 1) _ _ _ rfl rfl rfl
    have lG1_2 := HG1w2.out.lt 2 (w.heap.size + 1 + 1) (by simp) rfl
    have cG1_2_0 := HG1w2.out.cell 2 0 (w.heap.size + 1 + 1) _ _ _ rfl rfl rfl
    have fG1_2_0 := HG1w2.out.frozen 2 0 (w.heap.size + 1 + 1) _ _ rfl rfl
    have cG1_2_1 := HG1w2.out.cell 2 1 (w.heap.size + 1 + 1) _ _ _ rfl rfl rfl
    have fG1_2_1 := HG1w2.out.frozen 2 1 (w.heap.size + 1 + 1) _ _ rfl rfl
    have cG1_2_2 := HG1w2.out.cell 2 2 (w.heap.size + 1 + 1) _ _ _ rfl rfl rfl
    have fG1_2_2 := HG1w2.out.frozen 2 2 (w.heap.size + 1 + 1) _ _ rfl rfl
    obtain ⟨A, rfl, e0, e1, e2, e3, e4⟩ := (HP.out.below HG1w2.out.2.2) n q HQ.out
    go_wp2_with fail
    go_region
    go_wp2_with fail
    refine (HM.out _ (HP.out.below HG1w2.out.2.2.drew) (HV.out.below HG1w2.out.2.2.drew)).mono ?_
    rintro e w3 ⟨rfl, hb⟩
    have HG1w3 := hide ((HG1w2.out.on ((Below.refl _ _).drew)).on hb)
    clear lG1_0 cG1_0_0 cG1_0_1 cG1_0_2 lG1_1 cG1_1_0 cG1_1_1 cG1_1_2 cG1_1_3 cG1_1_4 lG1_2 cG1_2_0 fG1_2_0 cG1_2_1 fG1_2_1 cG1_2_2 fG1_2_2 e0 e1 e2 e3 e4
    clear hb HG1w2
    have lG1_0 := HG1w3.out.lt 0 w.heap.size (by simp) rfl
    have cG1_0_0 := HG1w3.out.cell 0 0 w.heap.size _ _ _ rfl rfl rfl
    have cG1_0_1 := HG1w3.out.cell 0 1 w.heap.size _ _ _ rfl rfl rfl
    have cG1_0_2 := HG1w3.out.cell 0 2 w.heap.size _ _ _ rfl rfl rfl
    have lG1_1 := HG1w3.out.lt 1 (w.heap.size + 1) (by simp) rfl
    have cG1_1_0 := HG1w3.out.cell 1 0 (w.heap.size + 1) _ _ _ rfl rfl rfl
    have cG1_1_1 := HG1w3.out.cell 1 1 (w.heap.size + 1) _ _ _ rfl rfl rfl
    have cG1_1_2 := HG1w3.out.cell 1 2 (w.heap.size + 1) _ _ _ rfl rfl rfl
    have cG1_1_3 := HG1w3.out.cell 1 3 (w.heap.size + 1) _ _ _ rfl rfl rfl
    have cG1_1_4 := HG1w3.out.cell 1 4 (w.heap.size + 1) _ _ _ rfl rfl rfl
    have lG1_2 := HG1w3.out.lt 2 (w.heap.size + 1 + 1) (by simp) rfl
    have cG1_2_0 := HG1w3.out.cell 2 0 (w.heap.size + 1 + 1) _ _ _ rfl rfl rfl
    have cG1_2_1 := HG1w3.out.cell 2 1 (w.heap.size + 1 + 1) _ _ _ rfl rfl rfl
    have cG1_2_2 := HG1w3.out.cell 2 2 (w.heap.size + 1 + 1) _ _ _ rfl rfl rfl
    obtain ⟨Bt, hBt, k0, k1, k2, k3, k4, k5⟩ := (HT.out.below HG1w3.out.2.2) k x HTX.out
    subst hBt
    go_wp2_with fail
    have q0 := cell_regrown cG1_0_0
    have q1 := cell_regrown cG1_0_1
    have q2 := cell_regrown cG1_0_2
    have q3 := cell_regrown cG1_1_0
    have q4 := cell_regrown cG1_1_1
    have q5 := cell_regrown cG1_1_2
    have q6 := cell_regrown cG1_1_3
    have q7 := cell_regrown cG1_1_4
    have q8 := cell_regrown k0
    have q9 := cell_regrown k1
    have q10 := cell_regrown k2
    have q11 := cell_regrown k3
    have q12 := cell_regrown k4
    have q13 := cell_regrown k5
    have cJ : ∀ d os, Calls Try.prog 14 #[tk x.i x.k x.f x.t x.z x.r, .int .i64 M2, .int .i64 M1, tp a g s m z] (Sort.grow (redrawn w3 d) os) fun e w'' => e = .returned (.tuple #[.int .i64 J1, .int .i64 0]) ∧ ∃ p : Regrown, w'' = Sort.grow (redrawn w3 p.d) p.os :=
      fun d os => Calls.regrown_of (HJ.out _)
    refine wp_region_quiet_below (by kernel_rfl) (by kernel_rfl) ?_
    repeat (quiet_step (exact cJ _ _))
    refine wpQuiet_nil ?_
    intro _ hw'
    obtain ⟨⟨dq, osq⟩, hw''⟩ := hw'
    subst hw''
    have hbw := below_regrown w3 dq osq
    have HG1w4 := hide (HG1w3.out.on hbw)
    clear lG1_0 cG1_0_0 cG1_0_1 cG1_0_2 lG1_1 cG1_1_0 cG1_1_1 cG1_1_2 cG1_1_3 cG1_1_4 lG1_2 cG1_2_0 cG1_2_1 cG1_2_2
    clear hbw HG1w3 cJ k0 k1 k2 k3 k4 k5 q0 q1 q2 q3 q4 q5 q6 q7 q8 q9 q10 q11 q12 q13
    generalize Sort.grow (redrawn w3 dq) osq = w4 at *
    have lG1_0 := HG1w4.out.lt 0 w.heap.size (by simp) rfl
    have cG1_0_0 := HG1w4.out.cell 0 0 w.heap.size _ _ _ rfl rfl rfl
    have cG1_0_1 := HG1w4.out.cell 0 1 w.heap.size _ _ _ rfl rfl rfl
    have cG1_0_2 := HG1w4.out.cell 0 2 w.heap.size _ _ _ rfl rfl rfl
    have lG1_1 := HG1w4.out.lt 1 (w.heap.size + 1) (by simp) rfl
    have cG1_1_0 := HG1w4.out.cell 1 0 (w.heap.size + 1) _ _ _ rfl rfl rfl
    have cG1_1_1 := HG1w4.out.cell 1 1 (w.heap.size + 1) _ _ _ rfl rfl rfl
    have cG1_1_2 := HG1w4.out.cell 1 2 (w.heap.size + 1) _ _ _ rfl rfl rfl
    have cG1_1_3 := HG1w4.out.cell 1 3 (w.heap.size + 1) _ _ _ rfl rfl rfl
    have cG1_1_4 := HG1w4.out.cell 1 4 (w.heap.size + 1) _ _ _ rfl rfl rfl
    have lG1_2 := HG1w4.out.lt 2 (w.heap.size + 1 + 1) (by simp) rfl
    have cG1_2_0 := HG1w4.out.cell 2 0 (w.heap.size + 1 + 1) _ _ _ rfl rfl rfl
    have fG1_2_0 := HG1w4.out.frozen 2 0 (w.heap.size + 1 + 1) _ _ rfl rfl
    have cG1_2_1 := HG1w4.out.cell 2 1 (w.heap.size + 1 + 1) _ _ _ rfl rfl rfl
    have fG1_2_1 := HG1w4.out.frozen 2 1 (w.heap.size + 1 + 1) _ _ rfl rfl
    have cG1_2_2 := HG1w4.out.cell 2 2 (w.heap.size + 1 + 1) _ _ _ rfl rfl rfl
    have fG1_2_2 := HG1w4.out.frozen 2 2 (w.heap.size + 1 + 1) _ _ rfl rfl
    go_wp2_with fail
    refine bodyPost_ret (v := .tuple #[lg none none none 0 0 0 0 0 0, .int .i64 0, .int .i64 2]) (by simp [results, Try.results23, go_sem, *]) rfl ⟨⟨_, rfl, ledV_none _⟩, ?_⟩
    repeat (first | with_reducible refine Below.setCell ?_ (by simp; try omega) _ | exact HG1w4.out.2.2)

end Go.Proofs.Ytcakfmpckbmdeab
