/-
  The walk of AuditSums.
-/
import Derived.Test.YtcakfmpckbmdeaeA8
namespace Go.Proofs.Ytcakfmpckbmdeae
open Go.RowKit

set_option maxHeartbeats 6400000 in
set_option maxRecDepth 100000 in
theorem auditSums_walk (o1 o2 o3 : Option Addr) (T : List TK) (P : List TP) (V : List Int) (c1 c2 c3 : Nat) (mid : Int) (w : World) (h : LedV w (lg o1 o2 o3 T.length c1 P.length c2 V.length c3) T P V) (hl : LensOk T P V) :
    Calls Try.prog 6 #[lg o1 o2 o3 T.length c1 P.length c2 V.length c3, .int .i64 mid] w fun e w' => e = .returned (.bool true) ∧ Below w.heap.size w w' := by
  have HL0 := hide h
  have HC := hide (fun W (h : LedV W (lg o1 o2 o3 T.length c1 P.length c2 V.length c3) T P V) => checkV h hl)
  have HG := hide (fun W (h : LedV W (lg o1 o2 o3 T.length c1 P.length c2 V.length c3) T P V) g => gateVv h hl g)
  have HLf := hide (fun W (h : LedV W (lg o1 o2 o3 T.length c1 P.length c2 V.length c3) T P V) id => leftVv h hl id)
  have HRd := hide (fun W (h : LedV W (lg o1 o2 o3 T.length c1 P.length c2 V.length c3) T P V) id => ridesVv h hl id)
  have HBt := hide (fun W (h : LedV W (lg o1 o2 o3 T.length c1 P.length c2 V.length c3) T P V) x y => betwVv h hl x y)
  clear h hl
  by_cases hX : chkL T P V = 0
  · have hr := chkL_right hX
    have r1 := hr.1
    have r2 := hr.2.1
    have hf := fine_of hX
    have hzl : (P.zip V).length = P.length := by rw [List.length_zip]; omega
    have HGo := hide (fun g (hg : 0 ≤ g ∧ g ≤ 2) => gateV_of hX hg)
    have HCb := hide (fun (f : TP → Bool) (v : Int) => (by have := cnt_bound f (P.zip V) v; omega : 0 ≤ cnt f (P.zip V) v ∧ cnt f (P.zip V) v ≤ 60))
    have HSA := hide (fun q => sumA_step hf q)
    have HSR := hide (fun q => sumR_step (P.zip V) q)
    have HSb := hide (fun q => (by have b1 := cntB_bound (fun x => decide (x.1.g < q)) (P.zip V); have b2 := cntB_bound (fun x => decide (x.1.g < q) && x.2 == 1) (P.zip V); unfold sumA sumR; omega : 0 ≤ sumA (P.zip V) q ∧ sumA (P.zip V) q ≤ 60 ∧ 0 ≤ sumR (P.zip V) q ∧ sumR (P.zip V) q ≤ 60))
    have HTb := hide (fun L => (by have b1 := cntB_bound (fun x => x.2 == 1 && !(L.any fun t => t.i == x.1.a)) (P.zip V); unfold sumT; omega : 0 ≤ sumT (P.zip V) L ∧ sumT (P.zip V) L ≤ 60))
    have HS0 := hide (And.intro (sumA_none hf) (sumR_none hf))
    have HS3 := hide (And.intro (by rw [sumA_all hf, hzl] : sumA (P.zip V) 3 = P.length) (sumR_all hf))
    have HT0 := hide (sumT_none hf)
    have HTs := hide (fun (q : Nat) (t : TK) (ht : T[q]? = some t) => sumT_step (P.zip V) (rising_of hr.2.2.2.1) ht)
    have HLs := hide (fun (t : TK) (ht : t ∈ T) => left_some hX ht)
    have HBs := hide (fun (h0 : 0 ≤ mid) (h1 : mid < 9999) => between_sum hX h0 h1)
    have HX := hide hX
    clear hr hf hX hzl
    go_enter Try.func6, Try.ntmps6
    go_wp2_with fail
    have HG1 := hide ((Blks.nil w).more (.cells #[.slice o1 T.length c1, .slice o2 P.length c2, .slice o3 V.length c3] 26) (by simp))
    refine (auditBegun_any _).mono ?_
    rintro e w1 ⟨rfl, hb⟩
    have HG2 := hide (HG1.out.on hb)
    clear hb HG1
    go_wp2_with fail
    refine (ledgerBegun_any _).mono ?_
    rintro e w2 ⟨rfl, hb⟩
    have HG3 := hide (HG2.out.on hb)
    clear hb HG2
    have x0 := HG3.out.cell 0 0 w.heap.size _ _ _ rfl rfl rfl
    have x1 := HG3.out.cell 0 1 w.heap.size _ _ _ rfl rfl rfl
    have x2 := HG3.out.cell 0 2 w.heap.size _ _ _ rfl rfl rfl
    go_wp2_with fail
    have hc := HC.out _ (HL0.out.below HG3.out.2.2)
    rw [HX.out] at hc
    refine hc.mono ?_
    rintro e w3 ⟨rfl, hb⟩
    have HG4 := hide (HG3.out.on hb)
    clear hb HG3 hc x0 x1 x2 HC HX
    go_wp2_with fail
    go_loopw [5, 6, 7] (fun s5 s6 s7 wr => ∃ (q : Nat) (A R : Int), q ≤ 3 ∧ s7 = .int .i64 q ∧ s5 = .int .i64 A ∧ s6 = .int .i64 R ∧ Hid (sumA (P.zip V) q = A ∧ sumR (P.zip V) q = R) ∧ Hid (Blks w wr ([] ++ [.cells #[.slice o1 T.length c1, .slice o2 P.length c2, .slice o3 V.length c3] 26]))) (fun _ _ s7 _ => 3 - (intOf s7).toNat)
    case atStart => exact ⟨0, 0, 0, by omega, rfl, rfl, rfl, HS0, HG4⟩
    case round =>
      obtain ⟨q, A, R, hq, rfl, rfl, rfl, hS, HB⟩ := hrel
      have x0 := HB.out.cell 0 0 w.heap.size _ _ _ rfl rfl rfl
      have x1 := HB.out.cell 0 1 w.heap.size _ _ _ rfl rfl rfl
      have x2 := HB.out.cell 0 2 w.heap.size _ _ _ rfl rfl rfl
      have hAb := HSb.out (q : Int)
      rw [hS.out.1, hS.out.2] at hAb
      obtain ⟨a1, a2, a3, a4⟩ := hAb
      by_cases hgo : q < 3
      · go_wp2_with fail
        have hg := HG.out _ (HL0.out.below HB.out.2.2) (q : Int)
        rw [HGo.out q (by omega)] at hg
        have b1 := HCb.out (fun p => p.g == (q : Int)) 1
        have b2 := HCb.out (fun p => p.g == (q : Int)) 2
        have hn := HSb.out ((q : Int) + 1)
        have e1 := HSA.out (q : Int)
        have e2 := HSR.out (q : Int)
        rw [hS.out.1] at e1
        rw [hS.out.2] at e2
        generalize cnt (fun p => p.g == (q : Int)) (P.zip V) 1 = C1 at *
        generalize cnt (fun p => p.g == (q : Int)) (P.zip V) 2 = C2 at *
        refine hg.mono ?_
        rintro e w4 ⟨rfl, hb⟩
        have HB2 := hide (HB.out.on hb)
        clear hb HB hg x0 x1 x2
        obtain ⟨b1, b1'⟩ := b1
        obtain ⟨b2, b2'⟩ := b2
        have hw1 : IntKind.i64.wrap (C1 + C2) = C1 + C2 := by rw [IntKind.wrap_i64]; omega
        have hw2 : IntKind.i64.wrap (A + (C1 + C2)) = A + (C1 + C2) := by rw [IntKind.wrap_i64]; omega
        have hw3 : IntKind.i64.wrap (R + C1) = R + C1 := by rw [IntKind.wrap_i64]; omega
        have HE := hide (And.intro e1 e2)
        clear e1 e2 hn
        go_wp2_with fail
        exact ⟨⟨q + 1, A + (C1 + C2), R + C1, by omega, by simp, rfl, rfl, hide HE.out, HB2⟩, by simp [intOf]; omega⟩
      · obtain rfl : q = 3 := by omega
        have hA : A = P.length := by rw [← hS.out.1]; exact HS3.out.1
        have hR : R = sumT (P.zip V) (T.take 0) := by rw [← hS.out.2]; exact HS3.out.2
        have HR := hide hR
        subst hA
        have HB0 := HB
        clear hS HB hR
        go_wp2_with fail
        go_loopw [6, 11] (fun s6 s11 wr => ∃ (q : Nat) (R : Int), q ≤ T.length ∧ s11 = .int .i64 q ∧ s6 = .int .i64 R ∧ Hid (R = sumT (P.zip V) (T.take q)) ∧ Hid (Blks w wr ([] ++ [.cells #[.slice o1 T.length c1, .slice o2 P.length c2, .slice o3 V.length c3] 26]))) (fun _ s11 _ => T.length - (intOf s11).toNat)
        case atStart => exact ⟨0, R, by omega, rfl, rfl, HR, HB0⟩
        case round =>
          clear x0 x1 x2 HB0 HR a1 a2 a3 a4
          obtain ⟨q, R, hq, rfl, rfl, hS, HB⟩ := hrel
          have x0 := HB.out.cell 0 0 w.heap.size _ _ _ rfl rfl rfl
          have x1 := HB.out.cell 0 1 w.heap.size _ _ _ rfl rfl rfl
          have x2 := HB.out.cell 0 2 w.heap.size _ _ _ rfl rfl rfl
          have hTb := HTb.out (T.take q)
          rw [← hS.out] at hTb
          obtain ⟨a3, a4⟩ := hTb
          by_cases hgo : q < T.length
          · obtain ⟨x, hx⟩ : ∃ x, T[q]? = some x := ⟨T[q], by simp [hgo]⟩
            obtain ⟨n, e1, e2, hn0, hn1⟩ := HLs.out x (List.mem_of_getElem? hx)
            have e3 := HTs.out q x hx
            rw [← hS.out] at e3
            have hC0 : (0 : Int) ≤ ((ridesL (P.zip V) x.i).length : Int) := by omega
            generalize ((ridesL (P.zip V) x.i).length : Int) = C at *
            have hTb := HTb.out (T.take (q + 1))
            have HE := hide (show R - C = sumT (P.zip V) (T.take (q + 1)) by omega)
            clear e3 hTb hS
            have hLV := HL0.out.below HB.out.2.2
            obtain ⟨A1, rfl, f0, f1, f2, f3, f4, f5⟩ := hLV.at.1 q x hx
            have HO := hide hLV
            have HXq := hide hx
            clear hLV hx
            have cL : ∀ d os, Calls Try.prog 17 #[lg (some A1) o2 o3 T.length c1 P.length c2 V.length c3, .int .i64 x.i] (Sort.grow (redrawn wr d) os) fun e w'' => e = .returned (.tuple #[.int .i64 n, .int .i64 0]) ∧ ∃ p : Regrown, w'' = Sort.grow (redrawn wr p.d) p.os :=
              fun d os => Calls.regrown_of (by have h := HLf.out _ (HO.out.below (below_regrown wr d os)) x.i; rw [e2] at h; exact h)
            have k0 := cell_regrown x0
            have k1 := cell_regrown x1
            have k2 := cell_regrown x2
            have m0 := cell_regrown f0
            clear x1 x2
            go_wp2_with fail
            refine wp_region_quiet_below (by kernel_rfl) (by kernel_rfl) ?_
            repeat (quiet_step (first | exact cL _ _))
            refine wpQuiet_nil ?_
            intro _ hw'
            obtain ⟨⟨dq, osq⟩, hw''⟩ := hw'
            subst hw''
            have hbw := below_regrown wr dq osq
            have HB2 := hide (HB.out.on hbw)
            clear hbw HB cL k0 k1 k2 m0 x0 f0 f1 f2 f3 f4 f5 HO
            generalize Sort.grow (redrawn wr dq) osq = w6 at *
            have x0 := HB2.out.cell 0 0 w.heap.size _ _ _ rfl rfl rfl
            have x1 := HB2.out.cell 0 1 w.heap.size _ _ _ rfl rfl rfl
            have x2 := HB2.out.cell 0 2 w.heap.size _ _ _ rfl rfl rfl
            have hLV := HL0.out.below HB2.out.2.2
            obtain ⟨A1', hA1, f0, f1, f2, f3, f4, f5⟩ : ∃ b, some A1 = some b ∧ Tik6 w6 (b.add (q * 6)) x := hLV.at.1 q x HXq.out
            cases hA1
            have HO := hide hLV
            clear hLV
            have cR : ∀ d os, Calls Try.prog 25 #[lg (some A1) o2 o3 T.length c1 P.length c2 V.length c3, .int .i64 x.i] (Sort.grow (redrawn w6 d) os) fun e w'' => e = .returned (.tuple #[.int .i64 C, .int .i64 0]) ∧ ∃ p : Regrown, w'' = Sort.grow (redrawn w6 p.d) p.os :=
              fun d os => Calls.regrown_of (by have h := HRd.out _ (HO.out.below (below_regrown w6 d os)) x.i; rw [e1] at h; exact h)
            have k0 := cell_regrown x0
            have k1 := cell_regrown x1
            have k2 := cell_regrown x2
            have m0 := cell_regrown f0
            clear x1 x2 e1 e2
            go_wp2_with fail
            refine wp_region_quiet_below (by kernel_rfl) (by kernel_rfl) ?_
            repeat (quiet_step (first | exact cR _ _))
            refine wpQuiet_nil ?_
            intro _ hw'
            obtain ⟨⟨dq, osq⟩, hw''⟩ := hw'
            subst hw''
            have hbw := below_regrown w6 dq osq
            have HB3 := hide (HB2.out.on hbw)
            clear hbw HB2 cR k0 k1 k2 m0 x0 f0 f1 f2 f3 f4 f5 HO HXq
            generalize Sort.grow (redrawn w6 dq) osq = w7 at *
            have hw1 : IntKind.i64.wrap (R - C) = R - C := by rw [IntKind.wrap_i64]; omega
            have hn2 : ¬ n < 0 := by omega
            go_wp2_with fail
            exact ⟨⟨_, .int .i64 (R - C), .int .i64 ((q : Int) + 1), ⟨q + 1, by omega, by simp, R - C, rfl, HE, HB3⟩, rfl, rfl, rfl⟩, by simp [intOf]; omega⟩
          · obtain rfl : q = T.length := by omega
            have hR : R = 0 := by rw [hS.out, List.take_length]; exact HT0.out
            subst hR
            clear hS a3 a4
            have hm : mid < 0 ∨ (¬ mid < 0 ∧ 9999 ≤ mid) ∨ (¬ mid < 0 ∧ ¬ 9999 ≤ mid) := by omega
            rcases hm with h1 | ⟨h1, h2⟩ | ⟨h1, h2⟩
            · go_wp2_with fail
              go_ret
              exact ⟨rfl, HB.out.2.2⟩
            · go_wp2_with fail
              go_ret
              exact ⟨rfl, HB.out.2.2⟩
            · obtain ⟨a, b, e1, e2, b1, b2, b3, b4, hs⟩ := HBs.out (by omega) (by omega)
              have hw1 : IntKind.i64.wrap (mid + 1) = mid + 1 := by rw [IntKind.wrap_i64]; omega
              have hw2 : IntKind.i64.wrap (a + b) = P.length := by rw [IntKind.wrap_i64]; omega
              clear hs
              go_wp2_with fail
              have hc := HBt.out _ (HL0.out.below HB.out.2.2) 0 mid
              rw [e1] at hc
              refine hc.mono ?_
              rintro e w6 ⟨rfl, hb⟩
              have HB2 := hide (HB.out.on hb)
              clear hb hc HB x0 x1 x2 e1
              have x0 := HB2.out.cell 0 0 w.heap.size _ _ _ rfl rfl rfl
              have x1 := HB2.out.cell 0 1 w.heap.size _ _ _ rfl rfl rfl
              have x2 := HB2.out.cell 0 2 w.heap.size _ _ _ rfl rfl rfl
              go_wp2_with fail
              have hc := HBt.out _ (HL0.out.below HB2.out.2.2) (mid + 1) 9999
              rw [e2] at hc
              refine hc.mono ?_
              rintro e w7 ⟨rfl, hb⟩
              have HB3 := hide (HB2.out.on hb)
              clear hb hc HB2 x0 x1 x2 e2
              go_wp2_with fail
              go_ret
              exact ⟨rfl, HB3.out.2.2⟩
  · generalize chkL T P V = X at *
    have hX' : (X != 0) = true := by simpa using hX
    clear hX HG HLf HRd HBt
    go_enter Try.func6, Try.ntmps6
    go_wp2_with fail
    have HG1 := hide ((Blks.nil w).more (.cells #[.slice o1 T.length c1, .slice o2 P.length c2, .slice o3 V.length c3] 26) (by simp))
    refine (auditBegun_any _).mono ?_
    rintro e w1 ⟨rfl, hb⟩
    have HG2 := hide (HG1.out.on hb)
    clear hb HG1
    go_wp2_with fail
    refine (ledgerBegun_any _).mono ?_
    rintro e w2 ⟨rfl, hb⟩
    have HG3 := hide (HG2.out.on hb)
    clear hb HG2
    have x0 := HG3.out.cell 0 0 w.heap.size _ _ _ rfl rfl rfl
    have x1 := HG3.out.cell 0 1 w.heap.size _ _ _ rfl rfl rfl
    have x2 := HG3.out.cell 0 2 w.heap.size _ _ _ rfl rfl rfl
    go_wp2_with fail
    refine (HC.out _ (HL0.out.below HG3.out.2.2)).mono ?_
    rintro e w3 ⟨rfl, hb⟩
    have HG4 := hide (HG3.out.on hb)
    clear hb HG3 x0 x1 x2
    go_wp2_with fail
    go_ret
    exact ⟨rfl, HG4.out.2.2⟩
end Go.Proofs.Ytcakfmpckbmdeae
