/-
  The walk of MergeWhole.
-/
import Derived.Test.YtefdnddaggpgkaaH4
import Derived.Test.YtefdnddaggpgkaaK1
import Derived.Test.YtefdnddaggpgkaaL3
import Derived.Test.YtefdnddaggpgkaaF17
import Derived.Test.YtefdnddaggpgkaaW2
namespace Go.Proofs.Ytefdnddaggpgkaa
open Go.RowKit

theorem wpList_append_taps {ops : Array Oper} {rest : List Oper} {o : Oper} {a : Act} {Q : Exit → Act → World → Prop} {w : World} (hgd : o.guard = none) (s x : Operand)
    (ho : o.op = .call { callee := .builtin .append, args := #[s, x], argTypes := #[23, 23] })
    (base : Nat) (v : Value) (R : List TP) (hs : a.eval s = v) (hown : w.ownsRow base 28 5 v R.length (cellsP R))
    (ox : Option Addr) (c : Nat) (L : List TP) (hx : a.eval x = .slice ox L.length c) (hL : TapsV w (.slice ox L.length c) L) (hb : (R.length + L.length) * 40 ≤ 140737488355328) (hbase : base ≤ w.heap.size)
    (h : ∀ v' w', w'.ownsRow base 28 5 v' (R ++ L).length (cellsP (R ++ L)) → w.grownBy w' v.ownBlock → wpList Try.prog ops Q rest (a.put o.dst v') w') : wpList Try.prog ops Q (o :: rest) a w := by
  obtain ⟨i0, hi, hz0, hz1, hz2⟩ := info_parts info32
  obtain ⟨o', c', e, hat, hlc, hn⟩ := hL
  simp only [Value.slice.injEq] at e
  obtain ⟨rfl, -, rfl⟩ := e
  refine wpList_plain hgd fun _ hK => wp_append_row s x 23 ho base 28 i0 _ 5 40 Try.underlying23 hi hz0 hz1 hz2 rfl (by decide) v R.length (cellsP R) hs hown ox L.length c (cellsP L) hx (cellsP_len L) ?_ (oneP L) ?_ (by unfold maxLen; omega) hb hbase fun v' w' h2 h3 => hK _ _ (h v' w' ?_ h3)
  · intro ad had
    subst had
    exact taps_cells hat
  · intro hno
    subst hno
    refine ⟨?_, hn rfl⟩
    have := hn rfl
    omega
  · rw [cellsP_app, List.length_append]
    exact h2

/-- what Into says of taps that come in another order -/
theorem into_turn {T : List TK} {P : List TP} {V : List Int} {M N : List TP} (hp : M.Perm N) : (intoE T P V N = 0 ↔ intoE T P V M = 0) ∧ intoT T P V N = intoT T P V M ∧ intoP T P V N = intoP T P V M ∧ intoV T P V N = intoV T P V M ∧ intoD T P V N = intoD T P V M := by
  by_cases h : intoE T P V M = 0
  · obtain ⟨h0, h1, h2, h3, h4⟩ := into_order hp h
    exact ⟨⟨fun _ => h, fun _ => h0⟩, h1, h2, h3, h4⟩
  · have h' : intoE T P V N ≠ 0 := fun h' => h (into_order hp.symm h').1
    obtain ⟨e1, e2, e3, e4⟩ := into_err h
    obtain ⟨f1, f2, f3, f4⟩ := into_err h'
    exact ⟨⟨fun g => absurd g h', fun g => absurd g h⟩, by rw [e1, f1], by rw [e2, f2], by rw [e3, f3], by rw [e4, f4]⟩

theorem into_bounds (T : List TK) (P : List TP) (V : List Int) (M : List TP) : (intoT T P V M).length ≤ 72 ∧ (intoP T P V M).length ≤ 72 ∧ (intoV T P V M).length ≤ 72 ∧ (intoD T P V M).length ≤ 72 := by
  by_cases h : intoE T P V M = 0
  · have h1 := into_small h
    have h2 := into_lens h
    have h3 := chkL_lens (into_chk h)
    exact ⟨by rw [(into_right h).2.2.2.2.1]; omega, by omega, by omega, by omega⟩
  · obtain ⟨e1, e2, e3, e4⟩ := into_err h
    rw [e1, e2, e3, e4]
    simp

/-- a ledger in a box, what lies in it, and a list -/
def MWa (w W : World) (o1 o2 o3 : Option Addr) (nt c1 np c2 nv c3 : Nat) (ba : Nat) (a1 a2 a3 : Option Addr) (m1 x1 m2 x2 m3 x3 : Nat) (T2 : List TK) (P2 : List TP) (V2 : List Int) (od : Option Addr) (cd : Nat) (D : List TP) : Prop :=
  Blks w W [.cells #[.slice o1 nt c1, .slice o2 np c2, .slice o3 nv c3] 26] ∧ Led3 W ba a1 a2 a3 m1 x1 m2 x2 m3 x3 ∧ LedV W (lg a1 a2 a3 m1 x1 m2 x2 m3 x3) T2 P2 V2 ∧ TapsV W (.slice od D.length cd) D

theorem MWa.on {w W W' : World} {o1 o2 o3 : Option Addr} {nt c1 np c2 nv c3 : Nat} {ba : Nat} {a1 a2 a3 : Option Addr} {m1 x1 m2 x2 m3 x3 : Nat} {T2 : List TK} {P2 : List TP} {V2 : List Int} {od : Option Addr} {cd : Nat} {D : List TP}
    (h : MWa w W o1 o2 o3 nt c1 np c2 nv c3 ba a1 a2 a3 m1 x1 m2 x2 m3 x3 T2 P2 V2 od cd D) (hb : Below W.heap.size W W') : MWa w W' o1 o2 o3 nt c1 np c2 nv c3 ba a1 a2 a3 m1 x1 m2 x2 m3 x3 T2 P2 V2 od cd D :=
  ⟨h.1.on hb, h.2.1.below hb h.2.1.lt, h.2.2.1.below hb, h.2.2.2.below hb⟩

set_option maxHeartbeats 12800000 in
set_option maxRecDepth 100000 in
theorem mergeWhole_walk (o1 o2 o3 : Option Addr) (T : List TK) (P : List TP) (V : List Int) (c1 c2 c3 : Nat) (om : Option Addr) (M : List TP) (cm : Nat) (w : World) (hled : LedV w (lg o1 o2 o3 T.length c1 P.length c2 V.length c3) T P V) (hl : LensOk T P V) (hM : TapsV w (.slice om M.length cm) M) (hlM : M.length * 40 ≤ 140737488355328) :
    Calls Try.prog 5 #[lg o1 o2 o3 T.length c1 P.length c2 V.length c3, .slice om M.length cm] w fun e w' => e = .returned (.bool true) ∧ Below w.heap.size w w' := by
  obtain ⟨i0, hi, hz0, hz1, hz2⟩ := info_parts info32
  have HG := hide ((Blks.nil w).more (.cells #[.slice o1 T.length c1, .slice o2 P.length c2, .slice o3 V.length c3] 26) (by simp))
  have HI := hide (fun W o c (N : List TP) (h : LedV W (lg o1 o2 o3 T.length c1 P.length c2 V.length c3) T P V) (h' : TapsV W (.slice o N.length c) N) (hle : N.length ≤ 9223372036854775807) => into_any T P V N o1 o2 o3 o c1 c2 c3 c W h hl h'.eqs.2.1 hle h'.eqs.2.2.2)
  have HLed := hide hled
  have HMt := hide hM
  obtain ⟨hE, e1, e2, e3, e4⟩ := into_turn (T := T) (P := P) (V := V) (List.reverse_perm M).symm
  have HIr := hide (fun W o c (h : LedV W (lg o1 o2 o3 T.length c1 P.length c2 V.length c3) T P V) (h' : TapsV W (.slice o M.length c) M.reverse) => into_any T P V M.reverse o1 o2 o3 o c1 c2 c3 c W h hl h'.eqs.2.1 (by simp; omega) h'.eqs.2.2.2)
  rw [e1, e2, e3, e4, List.length_reverse] at HIr
  have HEE : Hid ((intoE T P V M == 0) = (intoE T P V M.reverse == 0)) := hide (by
    by_cases h : intoE T P V M = 0
    · rw [h, hE.2 h]
    · have h' : ¬ intoE T P V M.reverse = 0 := fun h' => h (hE.1 h')
      rw [show (intoE T P V M == 0) = false by simpa using h, show (intoE T P V M.reverse == 0) = false by simpa using h'])
  clear hE e1 e2 e3 e4
  generalize intoE T P V M.reverse = E2 at *
  obtain ⟨hn1, hn2, hn3, hn4⟩ := into_bounds T P V M
  have HOk := hide (fun h => And.intro (into_small (T := T) (P := P) (V := V) (M := M) h) (And.intro (into_chk (T := T) (P := P) (V := V) (M := M) h) (And.intro (into_both (T := T) (P := P) (V := V) (M := M) h) (into_right (T := T) (P := P) (V := V) (M := M) h).2.2.2.2.1)))
  have HEr := hide (fun h => into_err (T := T) (P := P) (V := V) (M := M) h)
  clear hled hM
  have l0 := HG.out.cell 0 0 w.heap.size _ _ _ rfl rfl rfl
  have l1 := HG.out.cell 0 1 w.heap.size _ _ _ rfl rfl rfl
  have l2 := HG.out.cell 0 2 w.heap.size _ _ _ rfl rfl rfl
  go_enter Try.func5, Try.ntmps5
  go_wp2_with fail
  refine (HI.out _ _ _ _ (HLed.out.below HG.out.2.2) (HMt.out.below HG.out.2.2) (by omega)).mono ?_
  rintro e w1 ⟨⟨lv, od, nd, cd, rfl, ⟨v1, v2, v3, rfl, ⟨⟨a1, x1, rfl, ta⟩, -⟩, ⟨⟨a2, x2, rfl, tb⟩, -⟩, ⟨⟨a3, x3, rfl, tc⟩, -⟩⟩, hD, -⟩, hb⟩
  have hLa : LedV w1 (lg a1 a2 a3 (intoT T P V M).length x1 (intoP T P V M).length x2 (intoV T P V M).length x3) (intoT T P V M) (intoP T P V M) (intoV T P V M) := ⟨_, _, _, rfl, ⟨a1, x1, rfl, ta⟩, ⟨a2, x2, rfl, tb⟩, ⟨a3, x3, rfl, tc⟩⟩
  obtain ⟨rfl, -⟩ := hD.eqs
  have HD := hide hD
  have HA := hide hLa
  have HG1 := hide (HG.out.on hb)
  clear hb HG ta tb tc hLa hD l0 l1 l2
  generalize intoE T P V M = E at *
  generalize intoT T P V M = T2 at *
  generalize intoP T P V M = P2 at *
  generalize intoV T P V M = V2 at *
  generalize intoD T P V M = D at *
  go_wp2_with fail
  have hb := (Below.refl w1.heap.size w1).alloc (Nat.le_refl _) (cL a1 a2 a3 T2.length x1 P2.length x2 V2.length x3 26)
  have HX : Hid (MWa w (w1.alloc (cL a1 a2 a3 T2.length x1 P2.length x2 V2.length x3 26)) o1 o2 o3 T.length c1 P.length c2 V.length c3 w1.heap.size a1 a2 a3 T2.length x1 P2.length x2 V2.length x3 T2 P2 V2 od cd D) := hide ⟨HG1.out.on hb, ⟨by simp [go_sem], by simp [go_sem], by simp [go_sem]⟩, HA.out.below hb, HD.out.below hb⟩
  clear hb HG1 HA HD
  generalize w1.alloc (cL a1 a2 a3 T2.length x1 P2.length x2 V2.length x3 26) = w2 at *
  generalize w1.heap.size = ba at *
  refine (mergeBegun_any _).mono ?_
  rintro e w3 ⟨rfl, hb⟩
  have HX3 := hide (HX.out.on hb)
  clear hb HX
  go_wp2_with fail
  refine (ledgerBegun_any _).mono ?_
  rintro e w4 ⟨rfl, hb⟩
  have HX4 := hide (HX3.out.on hb)
  clear hb HX3
  have hw0 : IntKind.i64.wrap ((M.length : Int) - 1) = (M.length : Int) - 1 := by rw [IntKind.wrap_i64]; omega
  go_wp2_with fail
  go_loopw [8, 9] (fun v j wr => ∃ (k : Nat), k ≤ M.length ∧ j = .int .i64 ((k : Int) - 1) ∧ Hid (wr.ownsRow w4.heap.size 28 5 v (M.drop k).reverse.length (cellsP (M.drop k).reverse)) ∧ Hid (Below w4.heap.size w4 wr)) (fun _ j _ => (intOf j + 1).toNat)
  case atStart => exact ⟨M.length, Nat.le_refl _, rfl, hide (by rw [List.drop_length]; exact World.ownsRow_nil _ _ _ _), hide (Below.refl _ _)⟩
  case round =>
    obtain ⟨k, hk, hj, hown, HBr⟩ := hrel
    rcases k with _ | k
    · rw [show ((0 : Nat) : Int) - 1 = -1 from rfl] at hj
      subst hj
      have hR0 := hown.out
      rw [List.drop_zero, List.length_reverse] at hR0
      obtain ⟨or, cr, rfl, hcr, hnr⟩ := own_sliceB hR0
      have HRt := hide (tapsV_own hR0)
      clear hown hcr hnr hk hR0
      have HX5 := hide (HX4.out.on HBr.out)
      have l0 := HX5.out.1.cell 0 0 w.heap.size _ _ _ rfl rfl rfl
      have l1 := HX5.out.1.cell 0 1 w.heap.size _ _ _ rfl rfl rfl
      have l2 := HX5.out.1.cell 0 2 w.heap.size _ _ _ rfl rfl rfl
      go_wp2_with fail
      refine (HIr.out _ _ _ (HLed.out.below HX5.out.1.2.2) HRt.out).mono ?_
      rintro e w5 ⟨⟨lv, oe, ne, ce, rfl, ⟨v1, v2, v3, rfl, ⟨⟨b1, y1, rfl, ta⟩, -⟩, ⟨⟨b2, y2, rfl, tb⟩, -⟩, ⟨⟨b3, y3, rfl, tc⟩, -⟩⟩, hD, -⟩, hb⟩
      obtain ⟨rfl, -⟩ := hD.eqs
      have hLb : LedV w5 (lg b1 b2 b3 T2.length y1 P2.length y2 V2.length y3) T2 P2 V2 := ⟨_, _, _, rfl, ⟨b1, y1, rfl, ta⟩, ⟨b2, y2, rfl, tb⟩, ⟨b3, y3, rfl, tc⟩⟩
      have HX6 := hide (HX5.out.on hb)
      have HDe := hide hD
      have HLb := hide hLb
      have hee := HEE.out
      clear hb HX5 ta tb tc hD hLb HIr HI HRt HBr HX4 l0 l1 l2 HEE
      have hbz := (Below.refl w5.heap.size w5).alloc (Nat.le_refl _) (cL b1 b2 b3 T2.length y1 P2.length y2 V2.length y3 26)
      have z0 := HX6.out.2.1.c0
      have z1 := HX6.out.2.1.c1
      have z2 := HX6.out.2.1.c2
      have hba := HX6.out.2.1.lt
      have HX7 := hide (HX6.out.on hbz)
      have HDf := hide (HDe.out.below hbz)
      have HSl := hide (same_ledM (HX6.out.2.2.1.below hbz) (HLb.out.below hbz) (by omega) (by omega) (by omega))
      clear hbz HX6 HDe HLb
      rcases hEc : (E == 0) with _ | _
      · rw [hEc] at hee
        have hE2 := hee.symm
        clear hee
        go_wp2_with fail
        refine HSl.out.mono ?_
        rintro e w7 ⟨rfl, hb⟩
        have HX8 := hide (HX7.out.on hb)
        have HD8 := hide (HDf.out.below hb)
        clear hb HX7 HDf HSl z0 z1 z2 hba
        go_wp2_with fail
        refine (sameTaps_same D od oe cd ce _ HX8.out.2.2.2.eqs.2.1 HD8.out.eqs.2.1 (by omega)).mono ?_
        rintro e w8 ⟨rfl, hb⟩
        have HX9 := hide (HX8.out.on hb)
        clear hb HX8 HD8
        have z0 := HX9.out.2.1.c0
        have z1 := HX9.out.2.1.c1
        have z2 := HX9.out.2.1.c2
        have hba := HX9.out.2.1.lt
        have hEn : (E != 0) = true := by simpa using hEc
        obtain ⟨rfl, rfl, rfl, rfl⟩ := HEr.out (by simpa using hEc)
        go_wp2_with fail
        go_ret
        exact ⟨by simp, HX9.out.1.2.2⟩
      · rw [hEc] at hee
        have hE2 := hee.symm
        clear hee
        go_wp2_with fail
        refine HSl.out.mono ?_
        rintro e w7 ⟨rfl, hb⟩
        have HX8 := hide (HX7.out.on hb)
        have HD8 := hide (HDf.out.below hb)
        clear hb HX7 HDf HSl z0 z1 z2 hba
        go_wp2_with fail
        refine (sameTaps_same D od oe cd ce _ HX8.out.2.2.2.eqs.2.1 HD8.out.eqs.2.1 (by omega)).mono ?_
        rintro e w8 ⟨rfl, hb⟩
        have HX9 := hide (HX8.out.on hb)
        clear hb HX8 HD8
        have z0 := HX9.out.2.1.c0
        have z1 := HX9.out.2.1.c1
        have z2 := HX9.out.2.1.c2
        have hba := HX9.out.2.1.lt
        obtain rfl : E = 0 := by simpa using hEc
        have hk := HOk.out (by trivial)
        obtain ⟨hs1, hs2, hs3', hs4⟩ := hk.1
        have hs3 : V.length ≤ 60 := by omega
        have HCk := hide hk.2.1
        obtain ⟨ho1, ho2, ho3⟩ := hk.2.2.1
        have hTT := hk.2.2.2
        clear hk HOk hs3' HEr hEc hE2
        obtain ⟨B1, B1e⟩ : ∃ B, B = P2 ++ D := ⟨_, rfl⟩
        obtain ⟨B2, B2e⟩ : ∃ B, B = P ++ M := ⟨_, rfl⟩
        have hBl1 : B1.length ≤ 144 := by rw [B1e, List.length_append]; omega
        have hBl2 : B2.length ≤ 72 := by rw [B2e, List.length_append]; omega
        rw [← B1e] at ho2 ho3
        rw [← B2e] at ho1 ho3
        have HOo := hide (fun W o c (h : TapsV W (.slice o B1.length c) B1) => order_any o c B1 W h.eqs.2.1 (by omega) h.eqs.2.2.2)
        have HOc := hide (fun W o c (h : TapsV W (.slice o B2.length c) B2) => order_any o c B2 W h.eqs.2.1 (by omega) h.eqs.2.2.2)
        rw [ho2, ho3] at HOo
        rw [ho1] at HOc
        have hOl : (ordR B2).length ≤ 72 := by rw [ordR_len ho1]; exact hBl2
        clear ho1 ho2 ho3
        generalize ordR B2 = O at *
        have H1e := hide B1e
        have H2e := hide B2e
        clear B1e B2e
        subst hTT
        have HOp : Hid (World.ownsRow (w8.alloc (.cells #[] 28)) w8.heap.size 28 5 (.slice (some ⟨w8.heap.size, 0, none⟩) 0 0) ([] : List TP).length (cellsP [])) := hide (World.ownsRow_made (base := w8.heap.size) (e := 28) (size := 5) w8 #[] 0 (by simp) (by decide) rfl)
        have HXp := hide (TapsV.below (HX9.out.2.2.1.parts3.2.1) ((Below.refl w8.heap.size w8).alloc (Nat.le_refl _) (.cells #[] 28)))
        have HYp := hide (HX9.out.2.2.2)
        go_wp2_with first
          | (at_builtin; refine wpList_append_taps rfl _ _ rfl w8.heap.size _ [] rfl HOp.out a2 x2 P2 rfl HXp.out (by simp; omega) (by simp) ?_; intro v1 wia hown1 hgrow1; have HB1a := hide (((Below.refl w8.heap.size w8).alloc (Nat.le_refl _) (.cells #[] 28)).grown hgrow1 (by simp) (fun k hk => (HOp.out.lt k hk).1)); have HO1a : Hid (wia.ownsRow w8.heap.size 28 5 v1 P2.length (cellsP P2)) := hide hown1; clear hown1 hgrow1)
          | (at_builtin; refine wpList_append_taps rfl _ _ rfl w8.heap.size _ P2 rfl HO1a.out od cd D rfl (HYp.out.below HB1a.out) (by omega) (HB1a.out.size) ?_; intro v2 wja hown2 hgrow2; have HBa := hide (HB1a.out.grown hgrow2 HB1a.out.size (fun k hk => (HO1a.out.lt k hk).1)); rw [← H1e.out] at hown2; obtain ⟨oba, cba, rfl, hcba, hnba⟩ := own_sliceB hown2; have HRa := hide (tapsV_own hown2); clear hown2 hgrow2 hcba hnba; have HX10 := hide (HX9.out.on HBa.out); have l1 := HX10.out.1.cell 0 1 w.heap.size _ _ _ rfl rfl rfl; have hl0 := HX10.out.1.lt 0 w.heap.size (by simp) rfl; have HOq : Hid (World.ownsRow (wja.alloc (.cells #[] 28)) wja.heap.size 28 5 (.slice (some ⟨wja.heap.size, 0, none⟩) 0 0) ([] : List TP).length (cellsP [])) := hide (World.ownsRow_made (base := wja.heap.size) (e := 28) (size := 5) wja #[] 0 (by simp) (by decide) rfl); have HXq := hide (TapsV.below ((HLed.out.below HX10.out.1.2.2).parts3.2.1) ((Below.refl wja.heap.size wja).alloc (Nat.le_refl _) (.cells #[] 28))); have HYq := hide (HMt.out.below HX10.out.1.2.2))
          | (at_builtin; refine wpList_append_taps rfl _ _ rfl wja.heap.size _ [] rfl HOq.out o2 c2 P rfl HXq.out (by simp; omega) (by simp) ?_; intro v1 wib hown1 hgrow1; have HB1b := hide (((Below.refl wja.heap.size wja).alloc (Nat.le_refl _) (.cells #[] 28)).grown hgrow1 (by simp) (fun k hk => (HOq.out.lt k hk).1)); have HO1b : Hid (wib.ownsRow wja.heap.size 28 5 v1 P.length (cellsP P)) := hide hown1; clear hown1 hgrow1)
          | (at_builtin; refine wpList_append_taps rfl _ _ rfl wja.heap.size _ P rfl HO1b.out om cm M rfl (HYq.out.below HB1b.out) (by omega) (HB1b.out.size) ?_; intro v2 wjb hown2 hgrow2; have HBb := hide (HB1b.out.grown hgrow2 HB1b.out.size (fun k hk => (HO1b.out.lt k hk).1)); rw [← H2e.out] at hown2; obtain ⟨obb, cbb, rfl, hcbb, hnbb⟩ := own_sliceB hown2; have HRb := hide (tapsV_own hown2); clear hown2 hgrow2 hcbb hnbb)
        have HX11 := hide (HX10.out.on HBb.out)
        have HRa2 := hide (HRa.out.below HBb.out)
        clear HBb HX10 HRa z0 z1 z2 hba l1 hl0 HX9 HOp HXp HYp HOq HXq HYq HB1a HO1a HB1b HO1b HBa H1e H2e
        refine (HOo.out _ _ _ HRa2.out).mono ?_
        rintro e w10 ⟨⟨op, np, cp, rfl, hTo, -⟩, hb⟩
        obtain ⟨rfl, -⟩ := hTo.eqs
        have HP1 := hide hTo
        have HX12 := hide (HX11.out.on hb)
        have HRb2 := hide (HRb.out.below hb)
        clear hb hTo HX11 HRa2 HRb HOo
        go_wp2_with fail
        refine (HOc.out _ _ _ HRb2.out).mono ?_
        rintro e w11 ⟨⟨oq, nq, cq, rfl, hTo, -⟩, hb⟩
        obtain ⟨rfl, -⟩ := hTo.eqs
        have HSt := hide (sameTaps_same O op oq cp cq w11 (HP1.out.below hb).eqs.2.1 hTo.eqs.2.1 (by omega))
        have HX13 := hide (HX12.out.on hb)
        clear hb hTo HX12 HRb2 HOc HP1
        go_wp2_with fail
        refine HSt.out.mono ?_
        rintro e w12 ⟨rfl, hb⟩
        have HX14 := hide (HX13.out.on hb)
        clear hb HX13 HSt
        have z0 := HX14.out.2.1.c0
        have z1 := HX14.out.2.1.c1
        have z2 := HX14.out.2.1.c2
        have hC := checkV HX14.out.2.2.1 (by simp [LensOk]; omega)
        rw [HCk.out] at hC
        have HC := hide hC
        clear hC
        go_wp2_with fail
        refine HC.out.mono ?_
        rintro e w13 ⟨rfl, hb⟩
        have HX15 := hide (HX14.out.on hb)
        clear hb HX14 HC z0 z1 z2
        have z0 := HX15.out.2.1.c0
        have l0 := HX15.out.1.cell 0 0 w.heap.size _ _ _ rfl rfl rfl
        go_wp2_with fail
        refine (sameTickets_same T2 a1 o1 x1 c1 _ HX15.out.2.2.1.parts3.1.eqs.2.1 (HLed.out.below HX15.out.1.2.2).parts3.1.eqs.2.1 (by omega)).mono ?_
        rintro e w14 ⟨rfl, hb⟩
        go_wp2_with fail
        go_ret
        exact ⟨rfl, HX15.out.1.2.2.trans (hb.mono HX15.out.1.2.2.size)⟩
    · rw [show ((k + 1 : Nat) : Int) - 1 = (k : Int) by omega] at hj
      subst hj
      obtain ⟨p, hp⟩ : ∃ p, M[k]? = some p := ⟨M[k]'(by omega), by simp⟩
      have HX5 := hide (HX4.out.on HBr.out)
      have hw4 := HBr.out.size
      obtain ⟨A, rfl, c0, c1', c2', c3', c4'⟩ := (HMt.out.below HX5.out.1.2.2).eqs.2.1 k p hp
      have hA : (A.add (k * 5)).block < wr.heap.size := World.block_lt_of_cell? wr (A.add (k * 5)) c0
      have HE : Hid ((M.drop k).reverse = (M.drop (k + 1)).reverse ++ [p]) := hide (by
        obtain ⟨h1, rfl⟩ := List.getElem?_eq_some_iff.1 hp
        rw [List.drop_eq_getElem_cons h1, List.reverse_cons])
      have hll : (M.drop (k + 1)).reverse.length = M.length - (k + 1) := by simp
      have hkM : (k : Int) < (M.length : Int) := by omega
      have hw1 : IntKind.i64.wrap ((k : Int) - 1) = (k : Int) - 1 := by rw [IntKind.wrap_i64]; omega
      have HN : Hid (∀ j u, [Value.int .i64 p.a, .int .i64 p.g, .int .i64 p.s, .int .i64 p.m, .int .i64 p.z][j]? = some u → (wr.alloc (cP p.a p.g p.s p.m p.z 28)).cell? ((⟨wr.heap.size, 0, none⟩ : Addr).add j) = some u) := hide (five_new wr p.a p.g p.s p.m p.z 28)
      have HO := hide (hown.out.alloc (cP p.a p.g p.s p.m p.z 28))
      have HLl := hide hll
      clear hp HX5 hll
      generalize hR : (M.drop (k + 1)).reverse = R at *
      clear hR
      go_wp2_with (at_builtin; refine wpList_append_own _ rfl _ _ 23 rfl w4.heap.size 28 i0 _ 5 40 Try.underlying23 hi hz0 hz1 hz2 rfl (by decide) _ R.length (cellsP R) rfl HO.out ⟨wr.heap.size, 0, none⟩ 1 1 [.int .i64 p.a, .int .i64 p.g, .int .i64 p.s, .int .i64 p.m, .int .i64 p.z] rfl rfl HN.out (by intro u hu; simp at hu; rcases hu with rfl | rfl | rfl | rfl | rfl <;> rfl) (by have := HLl.out; unfold maxLen; omega) (by have := HLl.out; omega) (by simp; omega) ?_; intro v1 w1 hown1 hgrow1 _)
      refine ⟨⟨k, by omega, by simp, hide ?_, hide ?_⟩, by simp [intOf]⟩
      · rw [HE.out, cellsP_snoc, List.length_append]
        exact hown1
      · exact (HBr.out.alloc hw4 _).grown hgrow1 (by simp; omega) (fun k hk => (hown.out.lt k hk).1)

end Go.Proofs.Ytefdnddaggpgkaa
