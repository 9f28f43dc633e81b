/-
  'checkTaps', 'Check' (package ledger).
-/
import Derived.Test.YtcakfmpckbmdeabL6
namespace Go.Proofs.Ytcakfmpckbmdeab
open Go.RowKit

set_option maxHeartbeats 6400000 in
theorem checkTaps_any (T : List TK) (P : List TP) (V : List Int) (o1 o2 o3 : Option Addr) (c1 c2 c3 : Nat) (w : World) (hT : TiksAt w o1 T) (hP : TapsAt w o2 P) (hV : IntsAt w o3 V) (hlen : T.length ≤ 12) (hlen2 : P.length ≤ 60) (hlv : V.length = P.length)
    (hc2 : P.length ≤ c2) (hc3 : V.length ≤ c3) (hE : ticksE T = 0) :
    Calls Try.prog 65 #[lg o1 o2 o3 T.length c1 P.length c2 V.length c3] w fun e w' => e = .returned (.int .i64 (tapsE T P V)) ∧ Below w.heap.size w w' := by
  have hr := rising_of hE
  have hck := checked_of hE
  have HA := hide (fun q (h1 : ∀ j, j < q → errP T P V j = 0) (h2 : q < P.length) (h3 : errP T P V q ≠ 0) => tapsE_at h1 h2 h3)
  have HO := hide (fun (h1 : ∀ j, j < P.length → errP T P V j = 0) => tapsE_ok h1)
  have HQ := hide (fun q p v (h1 : ∀ j, j < q → errP T P V j = 0) (hp : P[q]? = some p) (hv : V[q]? = some v) => (tapE_errP hr hck (by have := (List.getElem?_eq_some_iff.1 hp).1; omega) (fun x hx => by
    obtain ⟨j, hj⟩ := List.mem_iff_getElem?.1 hx
    rw [List.getElem?_take] at hj
    split at hj
    · exact errP_chk hj (h1 j (by assumption))
    · cases hj) hp hv : tapE T (P.take q) (V.take q) p v = errP T P V q))
  have HK := hide (fun W q A A3 a g s m z said (hq : q < P.length) (h : TiksAt W o1 T) (h' : TapsAt W (some A) P) (h'' : IntsAt W (some A3) V) =>
    (by
      have h := checkTapB_any T (P.take q) (V.take q) o1 (some A) (some A3) c1 c2 c3 a g s m z said W h (h'.take q) (h''.take q) hlen (by rw [List.length_take]; omega) (by rw [List.length_take, List.length_take]; omega) hr
      rw [List.length_take, List.length_take, Nat.min_eq_left (by omega), Nat.min_eq_left (by omega)] at h
      exact h : Calls Try.prog 85 #[lg o1 (some A) (some A3) T.length c1 q c2 q c3, tp a g s m z, .int .i64 said] W fun e w' => e = .returned (.int .i64 (tapE T (P.take q) (V.take q) ⟨a, g, s, m, z⟩ said)) ∧ Below W.heap.size W w'))
  have HT := hide hT
  have HP := hide hP
  have HV := hide hV
  have HLV := hide hlv
  have hvl : V.length ≤ 60 := by omega
  clear hT hP hV hr hck hE hlv
  generalize tapsE T P V = R at *
  go_enter Try.func65, Try.ntmps65
  go_wp2_with fail
  go_loopw [10] (fun j wr => ∃ (q : Nat), q ≤ P.length ∧ j = .int .i64 q ∧ Hid (∀ j, j < q → errP T P V j = 0) ∧ Below (w.heap.size + 1) (w.alloc (cL o1 o2 o3 T.length c1 P.length c2 V.length c3 79)) wr) (fun j _ => P.length - (intOf j).toNat)
  case atStart => exact ⟨0, Nat.zero_le _, rfl, fun j hj => by omega, Below.refl _ _⟩
  case round =>
    obtain ⟨q, hq, rfl, hF, hbr⟩ := hrel
    have d0 : wr.cell? ⟨w.heap.size, 0, none⟩ = some (.slice o1 T.length c1) := by rw [hbr.cell (p := ⟨w.heap.size, 0, none⟩) (show w.heap.size < w.heap.size + 1 by omega)]; simp [go_sem]
    have d1 : wr.cell? ⟨w.heap.size, 1, none⟩ = some (.slice o2 P.length c2) := by rw [hbr.cell (p := ⟨w.heap.size, 1, none⟩) (show w.heap.size < w.heap.size + 1 by omega)]; simp [go_sem]
    have d2 : wr.cell? ⟨w.heap.size, 2, none⟩ = some (.slice o3 V.length c3) := by rw [hbr.cell (p := ⟨w.heap.size, 2, none⟩) (show w.heap.size < w.heap.size + 1 by omega)]; simp [go_sem]
    have hsz : w.heap.size < wr.heap.size := World.block_lt_of_cell? wr ⟨w.heap.size, 0, none⟩ d0
    have HB := hide (show Below w.heap.size w wr from ((Below.refl _ _).alloc (Nat.le_refl _) _).trans (hbr.mono (by omega)))
    by_cases hgo : q < P.length
    · obtain ⟨p, hp⟩ : ∃ p, P[q]? = some p := ⟨P[q], by simp [hgo]⟩
      obtain ⟨v, hv⟩ : ∃ v, V[q]? = some v := ⟨V[q]'(by have := HLV.out; omega), by simp⟩
      have HX := hide (HQ.out q p v hF.out hp hv)
      obtain ⟨A, rfl, e0, e1, e2, e3, e4⟩ := (HP.out.below HB.out) q p hp
      obtain ⟨A3, rfl, f0⟩ := (HV.out.below HB.out) q v hv
      have hA : (A.add (q * 5)).block < wr.heap.size := World.block_lt_of_cell? wr (A.add (q * 5)) e0
      have hvl2 : q < V.length := by have := HLV.out; omega
      clear hp hv
      go_wp2_with fail
      have HB3 := hide (hbr.alloc (show w.heap.size + 1 ≤ wr.heap.size by omega) (cP p.a p.g p.s p.m p.z 32))
      have HB4 := hide (HB.out.alloc (show w.heap.size ≤ wr.heap.size by omega) (cP p.a p.g p.s p.m p.z 32))
      have hbw : Below wr.heap.size wr (wr.alloc (cP p.a p.g p.s p.m p.z 32)) := (Below.refl _ _).alloc (Nat.le_refl _) _
      have x0 : (wr.alloc (cP p.a p.g p.s p.m p.z 32)).cell? ⟨w.heap.size, 0, none⟩ = some (.slice o1 T.length c1) := by rw [hbw.cell (p := ⟨w.heap.size, 0, none⟩) hsz]; exact d0
      have x1 : (wr.alloc (cP p.a p.g p.s p.m p.z 32)).cell? ⟨w.heap.size, 1, none⟩ = some (.slice (some A) P.length c2) := by rw [hbw.cell (p := ⟨w.heap.size, 1, none⟩) hsz]; exact d1
      have x2 : (wr.alloc (cP p.a p.g p.s p.m p.z 32)).cell? ⟨w.heap.size, 2, none⟩ = some (.slice (some A3) V.length c3) := by rw [hbw.cell (p := ⟨w.heap.size, 2, none⟩) hsz]; exact d2
      have g0 : (wr.alloc (cP p.a p.g p.s p.m p.z 32)).cell? (A3.add q) = some (.int .i64 v) := by rw [hbw.cell (World.block_lt_of_cell? wr (A3.add q) f0)]; exact f0
      obtain ⟨y0, y1, y2, y3, y4⟩ : Tap5 (wr.alloc (cP p.a p.g p.s p.m p.z 32)) ⟨wr.heap.size, 0, none⟩ p := ⟨by simp [go_sem], by simp [go_sem], by simp [go_sem], by simp [go_sem], by simp [go_sem]⟩
      simp only [Nat.zero_add] at y0 y1 y2 y3 y4
      clear d0 d1 d2 e0 e1 e2 e3 e4 f0 hbw hbr
      generalize wr.alloc (cP p.a p.g p.s p.m p.z 32) = w2 at *
      have k0 := cell_regrown x0
      have k1 := cell_regrown x1
      have k2 := cell_regrown x2
      have l0 := cell_regrown y0
      have l1 := cell_regrown y1
      have l2 := cell_regrown y2
      have l3 := cell_regrown y3
      have l4 := cell_regrown y4
      have m0 := cell_regrown g0
      have cA : ∀ d os, Calls Try.prog 84 #[lg o1 (some A) (some A3) T.length c1 P.length c2 V.length c3, .int .i64 (q : Int)] (Sort.grow (redrawn w2 d) os) fun e w'' => e = .returned (lg o1 (some A) (some A3) T.length c1 q c2 q c3) ∧ ∃ p : Regrown, w'' = Sort.grow (redrawn w2 p.d) p.os :=
        fun d os => Calls.regrown_of (ahead_any o1 A A3 T.length c1 P.length c2 V.length c3 q _ (by omega) (by omega) (by omega))
      have cT : ∀ d os, Calls Try.prog 85 #[lg o1 (some A) (some A3) T.length c1 q c2 q c3, tp p.a p.g p.s p.m p.z, .int .i64 v] (Sort.grow (redrawn w2 d) os) fun e w'' => e = .returned (.int .i64 (tapE T (P.take q) (V.take q) p v)) ∧ ∃ p : Regrown, w'' = Sort.grow (redrawn w2 p.d) p.os :=
        fun d os => Calls.regrown_of (HK.out _ q A A3 p.a p.g p.s p.m p.z v hgo ((HT.out.below HB4.out).below (below_regrown w2 d os)) ((HP.out.below HB4.out).below (below_regrown w2 d os)) ((HV.out.below HB4.out).below (below_regrown w2 d os)))
      rw [HX.out] at cT
      clear HX x0 x1 x2 y0 y1 y2 y3 y4 g0
      have HA' := hide (HA.out q hF.out hgo)
      have HF' : Hid (errP T P V q = 0 → ∀ j, j < q + 1 → errP T P V j = 0) := fun h3 j hj => by
        rcases Nat.lt_or_ge j q with h | h
        · exact hF.out j h
        · obtain rfl : j = q := by omega
          exact h3
      generalize errP T P V q = X at *
      refine wp_region_quiet_below (by kernel_rfl) (by kernel_rfl) ?_
      repeat (quiet_step (first | exact cA _ _ | exact cT _ _))
      refine wpQuiet_nil ?_
      intro _ hw'
      obtain ⟨⟨dq, osq⟩, hw''⟩ := hw'
      subst hw''
      have HB5 := hide (HB3.out.trans ((below_regrown w2 dq osq).mono (by have := HB3.out.size; simp at this; omega)))
      have HB6 := hide (HB4.out.trans ((below_regrown w2 dq osq).mono HB4.out.size))
      clear k0 k1 k2 l0 l1 l2 l3 l4 m0 cA cT
      cases hX : (X != 0)
      · go_wp2_with fail
        exact ⟨⟨q + 1, by omega, by simp, HF'.out (by simpa using hX), HB5.out⟩, by simp [intOf]; omega⟩
      · have HR := hide (HA'.out (by simpa using hX))
        go_wp2_with fail
        go_ret
        exact ⟨by rw [HR.out]; rfl, HB6.out⟩
    · obtain rfl : q = P.length := by omega
      have HR := hide (HO.out hF.out)
      go_wp2_with fail
      go_ret
      exact ⟨by rw [HR.out]; rfl, HB.out⟩

theorem chkL_split {T : List TK} {P : List TP} {V : List Int} (h : ¬ (12 < T.length ∨ 60 < P.length ∨ P.length ≠ V.length)) : (ticksE T ≠ 0 ∧ chkL T P V = ticksE T) ∨ (ticksE T = 0 ∧ chkL T P V = tapsE T P V) := by
  rw [chkL, if_neg h]
  by_cases h1 : ticksE T = 0
  · right
    exact ⟨h1, firstE_zero _ _ h1⟩
  · left
    exact ⟨h1, firstE_stop _ _ h1⟩

set_option maxHeartbeats 6400000 in
theorem checkLed_any (T : List TK) (P : List TP) (V : List Int) (o1 o2 o3 : Option Addr) (c1 c2 c3 : Nat) (w : World) (hT : TiksAt w o1 T) (hP : TapsAt w o2 P) (hV : IntsAt w o3 V) (hlT : T.length ≤ 9223372036854775807) (hlP : P.length ≤ 9223372036854775807) (_hlV : V.length ≤ 9223372036854775807)
    (hc2 : P.length ≤ c2) (hc3 : V.length ≤ c3) :
    Calls Try.prog 27 #[lg o1 o2 o3 T.length c1 P.length c2 V.length c3] w fun e w' => e = .returned (.int .i64 (chkL T P V)) ∧ Below w.heap.size w w' := by
  by_cases hm : 12 < T.length ∨ 60 < P.length ∨ P.length ≠ V.length
  · rw [chkL_many hm]
    have hcs : 12 < T.length ∨ (¬ 12 < T.length ∧ 60 < P.length) ∨ (¬ 12 < T.length ∧ ¬ 60 < P.length ∧ ((V.length : Int) != (P.length : Int)) = true) := by
      rcases hm with h | h | h
      · exact Or.inl h
      · by_cases h0 : 12 < T.length
        · exact Or.inl h0
        · exact Or.inr (Or.inl ⟨h0, h⟩)
      · by_cases h0 : 12 < T.length
        · exact Or.inl h0
        · by_cases h1 : 60 < P.length
          · exact Or.inr (Or.inl ⟨h0, h1⟩)
          · refine Or.inr (Or.inr ⟨h0, h1, ?_⟩)
            simp
            omega
    clear hm hT hP hV hc2 hc3
    rcases hcs with h1 | ⟨h1, h2⟩ | ⟨h1, h2, h3⟩
    all_goals
      go_enter Try.func27, Try.ntmps27
      go_wp2_with fail
      go_ret
      exact ⟨rfl, (Below.refl _ _).alloc (Nat.le_refl _) _⟩
  · have hsp := chkL_split hm
    have h1 : ¬ 12 < T.length := fun h => hm (Or.inl h)
    have h2 : ¬ 60 < P.length := fun h => hm (Or.inr (Or.inl h))
    have hlv : V.length = P.length := by omega
    have h3 : ((V.length : Int) != (P.length : Int)) = false := by simp [hlv]
    have HK := hide (fun W (h : TiksAt W o1 T) => checkTickets_any T o1 o2 o3 c1 P.length c2 V.length c3 W h (by omega))
    have HS := hide (fun W hE (h : TiksAt W o1 T) (h' : TapsAt W o2 P) (h'' : IntsAt W o3 V) => checkTaps_any T P V o1 o2 o3 c1 c2 c3 W h h' h'' (by omega) (by omega) hlv hc2 hc3 hE)
    have HT := hide hT
    have HP := hide hP
    have HV := hide hV
    clear hT hP hV hm hlv hc2 hc3
    generalize ticksE T = X at *
    generalize tapsE T P V = Y at *
    rcases hsp with ⟨hx, h5⟩ | ⟨rfl, h5⟩
    · have hx' : (X != 0) = true := by simpa using hx
      rw [h5]
      clear h5 hx
      go_enter Try.func27, Try.ntmps27
      go_wp2_with fail
      refine (HK.out _ (HT.out.below ?_)).mono ?_
      · repeat (first | with_reducible exact Below.refl _ _ | with_reducible refine Below.alloc ?_ (by simp; try omega) _ | with_reducible refine Below.setCell ?_ (by simp; try omega) _)
      rintro e w1 ⟨rfl, hb1⟩
      have HB1 : Hid (Below w.heap.size w w1) := by
        refine hide (Below.trans ?_ (hb1.mono ?_))
        · repeat (first | with_reducible exact Below.refl _ _ | with_reducible refine Below.alloc ?_ (by simp; try omega) _ | with_reducible refine Below.setCell ?_ (by simp; try omega) _)
        · simp; omega
      clear hb1
      go_wp2_with fail
      go_ret
      exact ⟨rfl, HB1.out⟩
    · rw [h5]
      clear h5
      go_enter Try.func27, Try.ntmps27
      go_wp2_with fail
      refine (HK.out _ (HT.out.below ?_)).mono ?_
      · repeat (first | with_reducible exact Below.refl _ _ | with_reducible refine Below.alloc ?_ (by simp; try omega) _ | with_reducible refine Below.setCell ?_ (by simp; try omega) _)
      rintro e w1 ⟨rfl, hb1⟩
      have HB1 : Hid (Below w.heap.size w w1) := by
        refine hide (Below.trans ?_ (hb1.mono ?_))
        · repeat (first | with_reducible exact Below.refl _ _ | with_reducible refine Below.alloc ?_ (by simp; try omega) _ | with_reducible refine Below.setCell ?_ (by simp; try omega) _)
        · simp; omega
      have hs1 := hb1.size
      simp at hs1
      obtain ⟨hc, hf⟩ := bcell hb1
      clear hb1
      go_wp2_with fail
      refine (HS.out _ trivial (HT.out.below HB1.out) (HP.out.below HB1.out) (HV.out.below HB1.out)).mono ?_
      rintro e w2 ⟨rfl, hb2⟩
      have HB2 := hide (HB1.out.trans (hb2.mono HB1.out.size))
      clear hb2 hc hf
      go_wp2_with fail
      go_ret
      exact ⟨rfl, HB2.out⟩

end Go.Proofs.Ytcakfmpckbmdeab
