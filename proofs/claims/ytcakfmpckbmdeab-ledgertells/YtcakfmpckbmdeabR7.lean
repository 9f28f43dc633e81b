/-
  The document's answers on ledgers: 'CheckLedger' (package leeboardref).
-/
import Derived.Test.YtcakfmpckbmdeabL8
namespace Go.Proofs.Ytcakfmpckbmdeab
open Go.RowKit

theorem errP_cases {T : List TK} {P : List TP} {V : List Int} {n : Nat} {p : TP} {v : Int} (hp : P[n]? = some p) (hv : V[n]? = some v) :
    (chkT p ≠ 0 ∧ errP T P V n = chkT p) ∨ (chkT p = 0 ∧ idxT T p.a < 0 ∧ errP T P V n = 5) ∨ (chkT p = 0 ∧ ¬ idxT T p.a < 0 ∧ twiceT (P.take n) p = true ∧ errP T P V n = 6) ∨
    (chkT p = 0 ∧ ¬ idxT T p.a < 0 ∧ twiceT (P.take n) p = false ∧ wi v 1 2 = false ∧ errP T P V n = 7) ∨
    (chkT p = 0 ∧ ¬ idxT T p.a < 0 ∧ twiceT (P.take n) p = false ∧ wi v 1 2 = true ∧ (0 < n ∧ p.m < (P.getD (n - 1) tp0).m) ∧ errP T P V n = 4) ∨
    (chkT p = 0 ∧ ¬ idxT T p.a < 0 ∧ twiceT (P.take n) p = false ∧ wi v 1 2 = true ∧ ¬ (0 < n ∧ p.m < (P.getD (n - 1) tp0).m) ∧ (verd T P V n p).1 ≠ v ∧ errP T P V n = 4) ∨
    (chkT p = 0 ∧ ¬ idxT T p.a < 0 ∧ twiceT (P.take n) p = false ∧ wi v 1 2 = true ∧ ¬ (0 < n ∧ p.m < (P.getD (n - 1) tp0).m) ∧ (verd T P V n p).1 = v ∧ errP T P V n = 0) := by
  have hg : P.getD n tp0 = p := by simp [List.getD, hp]
  have hg' : V.getD n 0 = v := by simp [List.getD, hv]
  unfold errP
  rw [hg, hg']
  by_cases h1 : chkT p = 0
  · by_cases h2 : idxT T p.a < 0
    · simp [firstE, h1, h2]
    · cases h3 : twiceT (P.take n) p
      · cases h4 : wi v 1 2
        · simp [firstE, h1, h2]
        · by_cases h5 : 0 < n ∧ p.m < (P.getD (n - 1) tp0).m
          · rw [if_pos h5]
            simp only [firstE, h1, h2, h5, if_true, if_false]
            simp
          · rw [if_neg h5]
            by_cases h6 : (verd T P V n p).1 = v
            · simp only [firstE, h1, h2, h6, h5, if_true, if_false]
              simp
            · simp only [firstE, h1, h2, h6, h5, if_true, if_false]
              simp [h6]
      · simp [firstE, h1, h2]
  · simp [firstE, h1]


theorem idxT_get {T : List TK} {id : Int} (h : ¬ idxT T id < 0) : ∃ (k : Nat) (x : TK), idxT T id = k ∧ T[k]? = some x := by
  unfold idxT at h ⊢
  cases hf : T.findIdx? (fun p => p.i == id) with
  | none => rw [hf] at h; simp at h
  | some k =>
    have := (List.findIdx?_eq_some_iff_getElem.1 hf).1
    exact ⟨k, T[k], rfl, by simp⟩

theorem errK_checked {T : List TK} {k : Nat} {x : TK} (h : ∀ j, j < T.length → errK T j = 0) (hx : T[k]? = some x) : chkK x = 0 :=
  (errK_parts hx (h k (List.getElem?_eq_some_iff.1 hx).1)).1

theorem many_last_from (X : List (TP × Int)) (id : Int) : ∀ s : Int × Int, (-1 ≤ s.2 ∧ s.2 ≤ 9999) → (∀ x ∈ X, 0 ≤ x.1.m ∧ x.1.m ≤ 9999) → -1 ≤ (X.foldl (fun s x => if x.1.a = id ∧ x.2 = 1 then (s.1 + 1, x.1.m) else s) s).2 ∧ (X.foldl (fun s x => if x.1.a = id ∧ x.2 = 1 then (s.1 + 1, x.1.m) else s) s).2 ≤ 9999 := by
  induction X with
  | nil => intro s h _; exact h
  | cons x X ih =>
    intro s h hx
    rw [List.foldl_cons]
    refine ih _ ?_ (fun y hy => hx y (by simp [hy]))
    have h2 := hx x (by simp)
    split
    · exact ⟨by show -1 ≤ x.1.m; omega, h2.2⟩
    · exact h

theorem many_last (X : List (TP × Int)) (id : Int) (h : ∀ x ∈ X, 0 ≤ x.1.m ∧ x.1.m ≤ 9999) : -1 ≤ (many X id).2 ∧ (many X id).2 ≤ 9999 :=
  many_last_from X id (0, -1) ⟨by decide, by decide⟩ h

theorem errP_times {T : List TK} {P : List TP} {V : List Int} {n : Nat} (h : ∀ j, j < n → errP T P V j = 0) {x : TP × Int} (hx : x ∈ (P.zip V).take n) : 0 ≤ x.1.m ∧ x.1.m ≤ 9999 := by
  obtain ⟨j, hj⟩ := List.mem_iff_getElem?.1 hx
  rw [List.getElem?_take] at hj
  split at hj
  · rename_i hlt
    obtain ⟨p, v⟩ := x
    rw [List.getElem?_zip_eq_some] at hj
    have := errP_chk hj.1 (h j hlt)
    exact (chkP_right this).2.2.2.1
  · cases hj

set_option maxRecDepth 100000 in
set_option maxHeartbeats 3200000 in
theorem checkLedger_any (o1 o2 o3 : Option Addr) (c1 c2 c3 : Nat) (T : List TK) (P : List TP) (V : List Int) (w : World) (hT : TiksAt w o1 T) (hP : TapsAt w o2 P) (hV : IntsAt w o3 V) :
    Calls Try.prog 21 #[lg o1 o2 o3 T.length c1 P.length c2 V.length c3] w fun e w' => e = .returned (.int .i64 (chkL T P V)) ∧ Below w.heap.size w w' := by
  have HT := hide hT
  have HP := hide hP
  have HV := hide hV
  clear hT hP hV
  have hways : (12 < T.length ∨ (¬ 12 < T.length ∧ 60 < P.length) ∨ (¬ 12 < T.length ∧ ¬ 60 < P.length ∧ ((P.length : Int) != (V.length : Int)) = true)) ∨ (¬ 12 < T.length ∧ ¬ 60 < P.length ∧ ((P.length : Int) != (V.length : Int)) = false ∧ P.length = V.length) := by
    by_cases h1 : 12 < T.length
    · exact Or.inl (Or.inl h1)
    · by_cases h2 : 60 < P.length
      · exact Or.inl (Or.inr (Or.inl ⟨h1, h2⟩))
      · by_cases h3 : P.length = V.length
        · exact Or.inr ⟨h1, h2, by simp [h3], h3⟩
        · exact Or.inl (Or.inr (Or.inr ⟨h1, h2, by simp; omega⟩))
  rcases hways with hw | ⟨h1, h2, h3, h4⟩
  · have HR : Hid (chkL T P V = 2) := chkL_many (by
      rcases hw with h | ⟨_, h⟩ | ⟨_, _, h⟩
      · exact Or.inl h
      · exact Or.inr (Or.inl h)
      · exact Or.inr (Or.inr (by simp at h; omega)))
    rcases hw with h | ⟨h, h'⟩ | ⟨h, h', h''⟩
    all_goals
      go_enter Try.func21, Try.ntmps21
      go_wp2_with fail
      go_ret
      exact ⟨by rw [HR.out]; rfl, (Below.refl _ _).alloc (Nat.le_refl _) _⟩
  · have HN := hide (show ¬ (12 < T.length ∨ 60 < P.length ∨ P.length ≠ V.length) by omega)
    have H4 := hide h4
    clear h4
    go_enter Try.func21, Try.ntmps21
    go_wp2_with fail
    go_loopw [3, 4] (fun i _ wr => ∃ q : Nat, q ≤ T.length ∧ i = .int .i64 q ∧ Hid (∀ j, j < q → errK T j = 0) ∧ Below (w.heap.size + 1) (w.alloc (.cells #[.slice o1 T.length c1, .slice o2 P.length c2, .slice o3 V.length c3] 43)) wr) (fun i _ _ => T.length - (intOf i).toNat)
    case atStart => exact ⟨0, Nat.zero_le _, rfl, by intro j hj; omega, Below.refl _ _⟩
    case round =>
      obtain ⟨q, hq, rfl, hno, hbr⟩ := hrel
      have hd : ∀ W, Below (w.heap.size + 1) (w.alloc (.cells #[.slice o1 T.length c1, .slice o2 P.length c2, .slice o3 V.length c3] 43)) W → W.cell? ⟨w.heap.size, 0, none⟩ = some (.slice o1 T.length c1) ∧ W.cell? ⟨w.heap.size, 1, none⟩ = some (.slice o2 P.length c2) ∧ W.cell? ⟨w.heap.size, 2, none⟩ = some (.slice o3 V.length c3) ∧ Below w.heap.size w W := fun W hb =>
        ⟨by rw [hb.cell (p := ⟨w.heap.size, 0, none⟩) (show w.heap.size < w.heap.size + 1 by omega)]; simp [go_sem], by rw [hb.cell (p := ⟨w.heap.size, 1, none⟩) (show w.heap.size < w.heap.size + 1 by omega)]; simp [go_sem],
          by rw [hb.cell (p := ⟨w.heap.size, 2, none⟩) (show w.heap.size < w.heap.size + 1 by omega)]; simp [go_sem], ((Below.refl _ _).alloc (Nat.le_refl _) _).trans (hb.mono (by omega))⟩
      have HD := hide hd
      clear hd
      by_cases hlt : q < T.length
      · obtain ⟨p, hp⟩ : ∃ p, T[q]? = some p := ⟨T[q], by simp [hlt]⟩
        obtain ⟨d0, d1, d2, hB⟩ := HD.out wr hbr
        obtain ⟨A, rfl, e0, e1, e2, e3, e4, e5⟩ := (HT.out.below hB) q p hp
        have HC := hide (errK_cases hp)
        have HX := hide (fun W => checkT_any p.i p.k p.f p.t p.z p.r W)
        change Hid (∀ W : World, Calls Try.prog 43 #[tk p.i p.k p.f p.t p.z p.r] W fun e w' => e = .returned (.int .i64 (chkK p)) ∧ Below W.heap.size W w') at HX
        have HPp := hide hp
        clear hp
        generalize chkK p = x at HX HC
        rcases HC.out with ⟨hx, hE⟩ | ⟨hx, h0, hle, hE⟩ | ⟨hx, hle, hE⟩
        · have HR : Hid (chkL T P V = x) := (chkL_tick HN.out hno.out hlt (by rw [hE]; exact hx)).trans hE
          have hx' : (x != 0) = true := by simpa using hx
          clear hE hx HC
          go_wp2_with fail
          refine (HX.out _).mono ?_
          rintro e w3 ⟨rfl, hb3⟩
          go_wp2_with fail
          go_ret
          exact ⟨by rw [HR.out]; rfl, hB.trans (hb3.mono hB.size)⟩
        · subst hx
          obtain ⟨q', rfl⟩ : ∃ q', q = q' + 1 := ⟨q - 1, by omega⟩
          obtain ⟨p', hp'⟩ : ∃ p', T[q']? = some p' := ⟨T[q'], by simp⟩
          have hle' : p.i ≤ p'.i := by simpa [List.getD, hp'] using hle
          have HR : Hid (chkL T P V = 4) := (chkL_tick HN.out hno.out hlt (by rw [hE]; decide)).trans hE
          have HPp' := hide hp'
          clear hE HC hle hp' h0
          go_wp2_with fail
          refine (HX.out _).mono ?_
          rintro e w3 ⟨rfl, hb3⟩
          have hbr3 := hbr.trans (hb3.mono (by have := hbr.size; simp at this; omega))
          clear hb3 hbr d0 d1 d2 e0 e1 e2 e3 e4 e5 hB
          obtain ⟨d0, d1, d2, hB⟩ := HD.out w3 hbr3
          obtain ⟨A', hA, e0, _, _, _, _, _⟩ := (HT.out.below hB) (q' + 1) p HPp.out
          cases hA
          obtain ⟨A', hA, f0, _, _, _, _, _⟩ := (HT.out.below hB) q' p' HPp'.out
          cases hA
          go_wp2_with fail
          go_region
          go_wp2_with fail
          go_ret
          exact ⟨by rw [HR.out]; rfl, hB.drew⟩
        · subst hx
          have HK : Hid (∀ j, j < q + 1 → errK T j = 0) := by
            intro j hj
            by_cases h : j < q
            · exact hno.out j h
            · obtain rfl : j = q := by omega
              exact hE
          clear hE HC hno
          by_cases h0 : q = 0
          · subst h0
            rw [show A.add (0 * 6) = A from rfl] at e0 e1 e2 e3 e4 e5
            clear hle
            go_wp2_with fail
            refine (HX.out _).mono ?_
            rintro e w3 ⟨rfl, hb3⟩
            have hbr3 := hbr.trans (hb3.mono (by have := hbr.size; simp at this; omega))
            clear hb3 hbr d0 d1 d2 e0 e1 e2 e3 e4 e5 hB
            obtain ⟨d0, d1, d2, hB⟩ := HD.out w3 hbr3
            go_wp2_with fail
            go_region
            go_wp2_with fail
            exact ⟨⟨0 + 1, by omega, by simp, HK, hbr3.drew⟩, by simp [intOf]; omega⟩
          · obtain ⟨q', rfl⟩ : ∃ q', q = q' + 1 := ⟨q - 1, by omega⟩
            obtain ⟨p', hp'⟩ : ∃ p', T[q']? = some p' := ⟨T[q'], by simp⟩
            have hle' : ¬ p.i ≤ p'.i := by simpa [List.getD, hp'] using hle
            have HPp' := hide hp'
            clear hle hp' h0
            go_wp2_with fail
            refine (HX.out _).mono ?_
            rintro e w3 ⟨rfl, hb3⟩
            have hbr3 := hbr.trans (hb3.mono (by have := hbr.size; simp at this; omega))
            clear hb3 hbr d0 d1 d2 e0 e1 e2 e3 e4 e5 hB
            obtain ⟨d0, d1, d2, hB⟩ := HD.out w3 hbr3
            obtain ⟨A', hA, e0, _, _, _, _, _⟩ := (HT.out.below hB) (q' + 1) p HPp.out
            cases hA
            obtain ⟨A', hA, f0, _, _, _, _, _⟩ := (HT.out.below hB) q' p' HPp'.out
            cases hA
            go_wp2_with fail
            go_region
            go_wp2_with fail
            exact ⟨⟨q' + 1 + 1, by omega, by simp, HK, hbr3.drew⟩, by simp [intOf]; omega⟩
      · obtain rfl : q = T.length := by omega
        obtain ⟨d0, d1, d2, hB⟩ := HD.out wr hbr
        have HK := hide hno.out
        clear hno hB
        generalize wr = wq at *
        go_wp2_with fail
        go_loopw [5, 6, 7, 8, 9, 10, 11, 12] (fun i _ _ _ _ _ _ _ ws => ∃ n : Nat, n ≤ P.length ∧ i = .int .i64 n ∧ Hid (∀ j, j < n → errP T P V j = 0) ∧ Below (w.heap.size + 1) (w.alloc (.cells #[.slice o1 T.length c1, .slice o2 P.length c2, .slice o3 V.length c3] 43)) ws) (fun i _ _ _ _ _ _ _ _ => P.length - (intOf i).toNat)
        case atStart => exact ⟨0, Nat.zero_le _, rfl, by intro j hj; omega, hbr⟩
        case round =>
          clear d0 d1 d2 hbr
          obtain ⟨n, hn, rfl, hno, hbs⟩ := hrel
          obtain ⟨d0, d1, d2, hB⟩ := HD.out wr hbs
          by_cases hlt : n < P.length
          · obtain ⟨p, hp⟩ : ∃ p, P[n]? = some p := ⟨P[n], by simp [hlt]⟩
            obtain ⟨v, hv⟩ : ∃ v, V[n]? = some v := ⟨V[n]'(by have := H4.out; omega), by simp⟩
            obtain ⟨A, rfl, e0, e1, e2, e3, e4⟩ := (HP.out.below hB) n p hp
            obtain ⟨A', rfl, f0⟩ := (HV.out.below hB) n v hv
            have HC := hide (errP_cases (T := T) hp hv)
            have HX := hide (fun W => checkTap_any p.a p.g p.s p.m p.z W)
            change Hid (∀ W : World, Calls Try.prog 17 #[tp p.a p.g p.s p.m p.z] W fun e w' => e = .returned (.int .i64 (chkT p)) ∧ Below W.heap.size W w') at HX
            have HY := hide (show ∀ W W', Below (w.heap.size + 1) (w.alloc (.cells #[.slice o1 T.length c1, .slice (some A) P.length c2, .slice (some A') V.length c3] 43)) W → Tap5 W ⟨wr.heap.size, 0, none⟩ p → Below W.heap.size W W' →
                Below (w.heap.size + 1) (w.alloc (.cells #[.slice o1 T.length c1, .slice (some A) P.length c2, .slice (some A') V.length c3] 43)) W' ∧ Tap5 W' ⟨wr.heap.size, 0, none⟩ p from
              fun W W' h5 h6 h7 => ⟨h5.trans (h7.mono (by have := h5.size; simp at this; omega)), h6.below h7 h6.lt⟩)
            have y0 : Tap5 (wr.alloc (.cells #[.int .i64 p.a, .int .i64 p.g, .int .i64 p.s, .int .i64 p.m, .int .i64 p.z] 32)) ⟨wr.heap.size, 0, none⟩ p := ⟨by simp [go_sem], by simp [go_sem], by simp [go_sem], by simp [go_sem], by simp [go_sem]⟩
            have b0 := hbs.alloc (by have := hbs.size; simpa using this) (.cells #[.int .i64 p.a, .int .i64 p.g, .int .i64 p.s, .int .i64 p.m, .int .i64 p.z] 32)
            have HP' := hide hp
            have HV' := hide hv
            clear hp hv
            have HCR := hide (fun (h : chkT p = 0) => chkP_right (a := p.a) (g := p.g) (s := p.s) (m := p.m) (z := p.z) h)
            generalize hx : chkT p = x at HX HC HCR
            rcases HC.out with ⟨hE1, hE⟩ | ⟨hE1, hE2, hE⟩ | ⟨hE1, hE2, hE3, hE⟩ | ⟨hE1, hE2, hE3, hE4, hE⟩ | ⟨hE1, hE2, hE3, hE4, hE5, hE⟩ | ⟨hE1, hE2, hE3, hE4, hE5, hE6, hE⟩ | ⟨hE1, hE2, hE3, hE4, hE5, hE6, hE⟩
            · have HR : Hid (chkL T P V = x) := (chkL_tap HN.out HK.out hno.out hlt (by rw [hE]; exact hE1)).trans hE
              have hx' : (x != 0) = true := by simpa using hE1
              clear hx hE1 hE HC HCR
              go_wp2_with fail
              refine (HX.out _).mono ?_
              rintro e w1 ⟨rfl, hb1⟩
              obtain ⟨b1, y1⟩ := HY.out _ w1 b0 y0 hb1
              clear d0 d1 d2 hB e0 e1 e2 e3 e4 f0 hb1
              obtain ⟨d0, d1, d2, hB1⟩ := HD.out w1 b1
              obtain ⟨e0, e1, e2, e3, e4⟩ := y1
              go_wp2_with fail
              go_ret
              exact ⟨by rw [HR.out]; rfl, hB1⟩
            · have HR : Hid (chkL T P V = 5) := (chkL_tap HN.out HK.out hno.out hlt (by rw [hE]; decide)).trans hE
              subst hE1
              clear hx hE HC HCR
              go_wp2_with fail
              refine (HX.out _).mono ?_
              rintro e w1 ⟨rfl, hb1⟩
              obtain ⟨b1, y1⟩ := HY.out _ w1 b0 y0 hb1
              clear d0 d1 d2 hB e0 e1 e2 e3 e4 f0 hb1
              obtain ⟨d0, d1, d2, hB1⟩ := HD.out w1 b1
              obtain ⟨e0, e1, e2, e3, e4⟩ := y1
              go_wp2_with fail
              refine (ticketAt_any o1 _ T _ _ (HT.out.below hB1) (by omega)).mono ?_
              rintro e w1' ⟨rfl, hw1⟩
              obtain rfl := hw1.symm
              clear hw1
              go_wp2_with fail
              go_ret
              exact ⟨by rw [HR.out]; rfl, hB1⟩
            · have HR : Hid (chkL T P V = 6) := (chkL_tap HN.out HK.out hno.out hlt (by rw [hE]; decide)).trans hE
              have HZ := hide (show ∀ W, Below w.heap.size w W → Calls Try.prog 62 #[.slice (some A) P.length c2, .int .i64 n, tp p.a p.g p.s p.m p.z] W fun e w' => e = .returned (.bool true) ∧ Below W.heap.size W w' from fun W h => by
                have h' := isTwice_any (some A) c2 P n p.a p.g p.s p.m p.z W (HP.out.below h) (by omega) (by omega)
                rw [show twiceT (P.take n) ⟨p.a, p.g, p.s, p.m, p.z⟩ = true from hE3] at h'
                exact h')
              subst hE1
              clear hx hE hE3 HC HCR
              go_wp2_with fail
              refine (HX.out _).mono ?_
              rintro e w1 ⟨rfl, hb1⟩
              obtain ⟨b1, y1⟩ := HY.out _ w1 b0 y0 hb1
              clear d0 d1 d2 hB e0 e1 e2 e3 e4 f0 hb1
              obtain ⟨d0, d1, d2, hB1⟩ := HD.out w1 b1
              obtain ⟨e0, e1, e2, e3, e4⟩ := y1
              go_wp2_with fail
              refine (ticketAt_any o1 _ T _ _ (HT.out.below hB1) (by omega)).mono ?_
              rintro e w1' ⟨rfl, hw1⟩
              obtain rfl := hw1.symm
              clear hw1
              generalize hI : idxT T p.a = I at *
              go_wp2_with fail
              refine (HZ.out _ hB1).mono ?_
              rintro e w2 ⟨rfl, hb2⟩
              obtain ⟨b2, y2⟩ := HY.out _ w2 b1 ⟨e0, e1, e2, e3, e4⟩ hb2
              clear d0 d1 d2 e0 e1 e2 e3 e4 hb2 hB1
              obtain ⟨d0, d1, d2, hB2⟩ := HD.out w2 b2
              obtain ⟨e0, e1, e2, e3, e4⟩ := y2
              go_wp2_with fail
              go_ret
              exact ⟨by rw [HR.out]; rfl, hB2⟩
            · have HR : Hid (chkL T P V = 7) := (chkL_tap HN.out HK.out hno.out hlt (by rw [hE]; decide)).trans hE
              have HZ := hide (show ∀ W, Below w.heap.size w W → Calls Try.prog 62 #[.slice (some A) P.length c2, .int .i64 n, tp p.a p.g p.s p.m p.z] W fun e w' => e = .returned (.bool false) ∧ Below W.heap.size W w' from fun W h => by
                have h' := isTwice_any (some A) c2 P n p.a p.g p.s p.m p.z W (HP.out.below h) (by omega) (by omega)
                rw [show twiceT (P.take n) ⟨p.a, p.g, p.s, p.m, p.z⟩ = false from hE3] at h'
                exact h')
              subst hE1
              clear hx hE hE3 HC HCR
              go_wp2_with fail
              refine (HX.out _).mono ?_
              rintro e w1 ⟨rfl, hb1⟩
              obtain ⟨b1, y1⟩ := HY.out _ w1 b0 y0 hb1
              clear d0 d1 d2 hB e0 e1 e2 e3 e4 f0 hb1
              obtain ⟨d0, d1, d2, hB1⟩ := HD.out w1 b1
              obtain ⟨e0, e1, e2, e3, e4⟩ := y1
              go_wp2_with fail
              refine (ticketAt_any o1 _ T _ _ (HT.out.below hB1) (by omega)).mono ?_
              rintro e w1' ⟨rfl, hw1⟩
              obtain rfl := hw1.symm
              clear hw1
              generalize hI : idxT T p.a = I at *
              go_wp2_with fail
              refine (HZ.out _ hB1).mono ?_
              rintro e w2 ⟨rfl, hb2⟩
              obtain ⟨b2, y2⟩ := HY.out _ w2 b1 ⟨e0, e1, e2, e3, e4⟩ hb2
              clear d0 d1 d2 e0 e1 e2 e3 e4 hb2 hB1
              obtain ⟨d0, d1, d2, hB2⟩ := HD.out w2 b2
              obtain ⟨e0, e1, e2, e3, e4⟩ := y2
              have hltV : n < V.length := by have := H4.out; omega
              obtain ⟨_, hA, f0⟩ := (HV.out.below hB2) n v HV'.out
              cases hA
              go_wp2_with fail
              refine (between_any _ _ _ _).mono ?_
              rintro e w2' ⟨rfl, hw2⟩
              obtain rfl := hw2.symm
              clear hw2
              rw [hE4]
              go_wp2_with fail
              go_ret
              exact ⟨by rw [HR.out]; rfl, hB2⟩
            · have HR : Hid (chkL T P V = 4) := (chkL_tap HN.out HK.out hno.out hlt (by rw [hE]; decide)).trans hE
              obtain ⟨hE5a, hE5⟩ := hE5
              obtain ⟨n', hn'⟩ : ∃ n', n = n' + 1 := ⟨n - 1, by omega⟩
              obtain ⟨p', hp'⟩ : ∃ p', P[n']? = some p' := ⟨P[n']'(by omega), by simp⟩
              have hlt' : p.m < p'.m := by simpa [List.getD, hn', hp'] using hE5
              have HN' := hide hn'
              have HPp' := hide hp'
              clear hE5 hE5a hn' hp'
              have HZ := hide (show ∀ W, Below w.heap.size w W → Calls Try.prog 62 #[.slice (some A) P.length c2, .int .i64 n, tp p.a p.g p.s p.m p.z] W fun e w' => e = .returned (.bool false) ∧ Below W.heap.size W w' from fun W h => by
                have h' := isTwice_any (some A) c2 P n p.a p.g p.s p.m p.z W (HP.out.below h) (by omega) (by omega)
                rw [show twiceT (P.take n) ⟨p.a, p.g, p.s, p.m, p.z⟩ = false from hE3] at h'
                exact h')
              subst hE1
              clear hx hE hE3 HC HCR
              go_wp2_with fail
              refine (HX.out _).mono ?_
              rintro e w1 ⟨rfl, hb1⟩
              obtain ⟨b1, y1⟩ := HY.out _ w1 b0 y0 hb1
              clear d0 d1 d2 hB e0 e1 e2 e3 e4 f0 hb1
              obtain ⟨d0, d1, d2, hB1⟩ := HD.out w1 b1
              obtain ⟨e0, e1, e2, e3, e4⟩ := y1
              go_wp2_with fail
              refine (ticketAt_any o1 _ T _ _ (HT.out.below hB1) (by omega)).mono ?_
              rintro e w1' ⟨rfl, hw1⟩
              obtain rfl := hw1.symm
              clear hw1
              generalize hI : idxT T p.a = I at *
              go_wp2_with fail
              refine (HZ.out _ hB1).mono ?_
              rintro e w2 ⟨rfl, hb2⟩
              obtain ⟨b2, y2⟩ := HY.out _ w2 b1 ⟨e0, e1, e2, e3, e4⟩ hb2
              clear d0 d1 d2 e0 e1 e2 e3 e4 hb2 hB1
              obtain ⟨d0, d1, d2, hB2⟩ := HD.out w2 b2
              obtain ⟨e0, e1, e2, e3, e4⟩ := y2
              have hltV : n < V.length := by have := H4.out; omega
              obtain ⟨_, hA, f0⟩ := (HV.out.below hB2) n v HV'.out
              cases hA
              go_wp2_with fail
              refine (between_any _ _ _ _).mono ?_
              rintro e w2' ⟨rfl, hw2⟩
              obtain rfl := hw2.symm
              clear hw2
              rw [hE4]
              obtain ⟨_, hA, _, _, _, g3, _⟩ := (HP.out.below hB2) n' p' HPp'.out
              cases hA
              obtain rfl := HN'.out
              go_wp2_with fail
              go_region
              go_wp2_with fail
              go_ret
              exact ⟨by rw [HR.out]; rfl, hB2.drew⟩
            · have HR : Hid (chkL T P V = 4) := (chkL_tap HN.out HK.out hno.out hlt (by rw [hE]; decide)).trans hE
              have hix := (idxT_get (show ¬ idxT T p.a < 0 from hE2))
              obtain ⟨kk, tx, hkk, htx⟩ := hix
              have hkx : chkK tx = 0 := errK_checked HK.out htx
              have hzz := (chk_right hkx).2.2.2.1
              have hml := many_last ((P.zip V).take n) p.a (fun x hx => errP_times hno.out hx)
              have HJ := hide (fun W => judgeOf_any tx.i tx.k tx.f tx.t tx.z tx.r (many ((P.zip V).take n) p.a).2 (many ((P.zip V).take n) p.a).1 p.a p.g p.s p.m p.z W (by omega) (by omega) (HCR.out hE1).2.2.2.2 hml.2 hml.1)
              have hvd : verd T P V n p = judge tx.k tx.f tx.t tx.z tx.r (many ((P.zip V).take n) p.a).2 (many ((P.zip V).take n) p.a).1 p.m p.z := by
                unfold verd
                rw [hkk, show T.getD ((kk : Int)).toNat tk0 = tx by simp [List.getD, htx]]
              rw [← hvd] at HJ
              have HM := hide (fun W (h : TapsAt W (some A) P) (h' : IntsAt W (some A') V) => manyOf_any o1 (some A) (some A') T.length c1 c2 c3 P V p.a n W h h' (by omega) (by have := H4.out; omega) (by omega))
              generalize (many ((P.zip V).take n) p.a).2 = M2 at HJ HM
              generalize (many ((P.zip V).take n) p.a).1 = M1 at HJ HM
              generalize (verd T P V n p).2 = J2 at HJ
              generalize hJ1 : (verd T P V n p).1 = J1 at HJ hE6
              have hkl := (List.getElem?_eq_some_iff.1 htx).1
              have HTX := hide htx
              clear hvd hml hzz hkx htx hJ1
              have HZ := hide (show ∀ W, Below w.heap.size w W → Calls Try.prog 62 #[.slice (some A) P.length c2, .int .i64 n, tp p.a p.g p.s p.m p.z] W fun e w' => e = .returned (.bool false) ∧ Below W.heap.size W w' from fun W h => by
                have h' := isTwice_any (some A) c2 P n p.a p.g p.s p.m p.z W (HP.out.below h) (by omega) (by omega)
                rw [show twiceT (P.take n) ⟨p.a, p.g, p.s, p.m, p.z⟩ = false from hE3] at h'
                exact h')
              have hne : (J1 != v) = true := by simpa using hE6
              clear hE6
              subst hE1
              clear hx hE hE3 HC HCR hE2
              go_wp2_with fail
              refine (HX.out _).mono ?_
              rintro e w1 ⟨rfl, hb1⟩
              obtain ⟨b1, y1⟩ := HY.out _ w1 b0 y0 hb1
              clear d0 d1 d2 hB e0 e1 e2 e3 e4 f0 hb1
              obtain ⟨d0, d1, d2, hB1⟩ := HD.out w1 b1
              obtain ⟨e0, e1, e2, e3, e4⟩ := y1
              go_wp2_with fail
              refine (ticketAt_any o1 _ T _ _ (HT.out.below hB1) (by omega)).mono ?_
              rintro e w1' ⟨rfl, hw1⟩
              obtain rfl := hw1.symm
              clear hw1
              rw [hkk]
              clear hkk
              go_wp2_with fail
              refine (HZ.out _ hB1).mono ?_
              rintro e w2 ⟨rfl, hb2⟩
              obtain ⟨b2, y2⟩ := HY.out _ w2 b1 ⟨e0, e1, e2, e3, e4⟩ hb2
              clear d0 d1 d2 e0 e1 e2 e3 e4 hb2 hB1
              obtain ⟨d0, d1, d2, hB2⟩ := HD.out w2 b2
              obtain ⟨e0, e1, e2, e3, e4⟩ := y2
              have hltV : n < V.length := by have := H4.out; omega
              obtain ⟨_, hA, f0⟩ := (HV.out.below hB2) n v HV'.out
              cases hA
              go_wp2_with fail
              refine (between_any _ _ _ _).mono ?_
              rintro e w2' ⟨rfl, hw2⟩
              obtain rfl := hw2.symm
              clear hw2
              rw [hE4]
              have h5 : n = 0 ∨ (∃ n' p', n = n' + 1 ∧ P[n']? = some p' ∧ ¬ p.m < p'.m) := by
                rcases Nat.eq_zero_or_pos n with h | h
                · exact Or.inl h
                · obtain ⟨n', hn'⟩ : ∃ n', n = n' + 1 := ⟨n - 1, by omega⟩
                  obtain ⟨p', hp'⟩ : ∃ p', P[n']? = some p' := ⟨P[n']'(by omega), by simp⟩
                  refine Or.inr ⟨n', p', hn', hp', fun hm => hE5 ⟨h, ?_⟩⟩
                  simpa [List.getD, hn', hp'] using hm
              clear hE5
              rcases h5 with h0 | ⟨n', p', hn', hp', hm⟩
              · subst h0
                rw [show A'.add 0 = A' from rfl] at f0
                go_wp2_with fail
                go_region
                go_wp2_with fail
                refine (HM.out _ (HP.out.below hB2.drew) (HV.out.below hB2.drew)).mono ?_
                rintro e w3 ⟨rfl, hb3⟩
                obtain ⟨b3, y3⟩ := HY.out _ w3 b2.drew ⟨e0, e1, e2, e3, e4⟩ hb3
                clear d0 d1 d2 e0 e1 e2 e3 e4 f0 hb3 hB2
                obtain ⟨d0, d1, d2, hB3⟩ := HD.out w3 b3
                obtain ⟨e0, e1, e2, e3, e4⟩ := y3
                obtain ⟨Bt, hBt, k0, k1, k2, k3, k4, k5⟩ := (HT.out.below hB3) kk tx HTX.out
                subst hBt
                go_wp2_with fail
                simp only [Nat.zero_add] at e0 e1 e2 e3 e4
                have q0 := cell_regrown d0
                have q1 := cell_regrown d1
                have q2 := cell_regrown d2
                have l0 := cell_regrown e0
                have l1 := cell_regrown e1
                have l2 := cell_regrown e2
                have l3 := cell_regrown e3
                have l4 := cell_regrown e4
                have m0 := cell_regrown k0
                have m1 := cell_regrown k1
                have m2 := cell_regrown k2
                have m3 := cell_regrown k3
                have m4 := cell_regrown k4
                have m5 := cell_regrown k5
                have cJ : ∀ d os, Calls Try.prog 14 #[tk tx.i tx.k tx.f tx.t tx.z tx.r, .int .i64 M2, .int .i64 M1, tp p.a p.g p.s p.m p.z] (Sort.grow (redrawn w3 d) os) fun e w'' => e = .returned (.tuple #[.int .i64 J1, .int .i64 J2]) ∧ ∃ p : Regrown, w'' = Sort.grow (redrawn w3 p.d) p.os :=
                  fun d os => Calls.regrown_of (HJ.out _)
                clear k0 k1 k2 k3 k4 k5
                refine wp_region_quiet_below (by kernel_rfl) (by kernel_rfl) ?_
                repeat (quiet_step (exact cJ _ _))
                refine wpQuiet_nil ?_
                intro _ hw'
                obtain ⟨⟨dq, osq⟩, hw''⟩ := hw'
                subst hw''
                have b4 := b3.trans ((below_regrown w3 dq osq).mono (by have := b3.size; simp at this; omega))
                clear d0 d1 d2 e0 e1 e2 e3 e4 hB3 q0 q1 q2 l0 l1 l2 l3 l4 m0 m1 m2 m3 m4 m5 cJ
                generalize Sort.grow (redrawn w3 dq) osq = w4 at *
                obtain ⟨d0, d1, d2, hB4⟩ := HD.out w4 b4
                obtain ⟨_, hA, f0⟩ := (HV.out.below hB4) _ v HV'.out
                cases hA
                rw [show A'.add 0 = A' from rfl] at f0
                go_wp2_with fail
                go_ret
                exact ⟨by rw [HR.out]; rfl, hB4⟩
              · obtain ⟨_, hA, _, _, _, g3, _⟩ := (HP.out.below hB2) n' p' hp'
                cases hA
                subst hn'
                have HPp' := hide hp'
                clear hp'
                go_wp2_with fail
                go_region
                go_wp2_with fail
                refine (HM.out _ (HP.out.below hB2.drew) (HV.out.below hB2.drew)).mono ?_
                rintro e w3 ⟨rfl, hb3⟩
                obtain ⟨b3, y3⟩ := HY.out _ w3 b2.drew ⟨e0, e1, e2, e3, e4⟩ hb3
                clear d0 d1 d2 e0 e1 e2 e3 e4 f0 hb3 hB2
                obtain ⟨d0, d1, d2, hB3⟩ := HD.out w3 b3
                obtain ⟨e0, e1, e2, e3, e4⟩ := y3
                obtain ⟨Bt, hBt, k0, k1, k2, k3, k4, k5⟩ := (HT.out.below hB3) kk tx HTX.out
                subst hBt
                go_wp2_with fail
                simp only [Nat.zero_add] at e0 e1 e2 e3 e4
                have q0 := cell_regrown d0
                have q1 := cell_regrown d1
                have q2 := cell_regrown d2
                have l0 := cell_regrown e0
                have l1 := cell_regrown e1
                have l2 := cell_regrown e2
                have l3 := cell_regrown e3
                have l4 := cell_regrown e4
                have m0 := cell_regrown k0
                have m1 := cell_regrown k1
                have m2 := cell_regrown k2
                have m3 := cell_regrown k3
                have m4 := cell_regrown k4
                have m5 := cell_regrown k5
                have cJ : ∀ d os, Calls Try.prog 14 #[tk tx.i tx.k tx.f tx.t tx.z tx.r, .int .i64 M2, .int .i64 M1, tp p.a p.g p.s p.m p.z] (Sort.grow (redrawn w3 d) os) fun e w'' => e = .returned (.tuple #[.int .i64 J1, .int .i64 J2]) ∧ ∃ p : Regrown, w'' = Sort.grow (redrawn w3 p.d) p.os :=
                  fun d os => Calls.regrown_of (HJ.out _)
                clear k0 k1 k2 k3 k4 k5
                refine wp_region_quiet_below (by kernel_rfl) (by kernel_rfl) ?_
                repeat (quiet_step (exact cJ _ _))
                refine wpQuiet_nil ?_
                intro _ hw'
                obtain ⟨⟨dq, osq⟩, hw''⟩ := hw'
                subst hw''
                have b4 := b3.trans ((below_regrown w3 dq osq).mono (by have := b3.size; simp at this; omega))
                clear d0 d1 d2 e0 e1 e2 e3 e4 hB3 q0 q1 q2 l0 l1 l2 l3 l4 m0 m1 m2 m3 m4 m5 cJ
                generalize Sort.grow (redrawn w3 dq) osq = w4 at *
                obtain ⟨d0, d1, d2, hB4⟩ := HD.out w4 b4
                obtain ⟨_, hA, f0⟩ := (HV.out.below hB4) _ v HV'.out
                cases hA
                rw [show A'.add (n' + 1) = ⟨A'.block, A'.off + (n' + 1), none⟩ from rfl] at f0
                go_wp2_with fail
                go_ret
                exact ⟨by rw [HR.out]; rfl, hB4⟩
            · have HR : Hid (∀ j, j < n + 1 → errP T P V j = 0) := by
                intro j hj
                by_cases h : j < n
                · exact hno.out j h
                · obtain rfl : j = n := by omega
                  exact hE
              have hix := (idxT_get (show ¬ idxT T p.a < 0 from hE2))
              obtain ⟨kk, tx, hkk, htx⟩ := hix
              have hkx : chkK tx = 0 := errK_checked HK.out htx
              have hzz := (chk_right hkx).2.2.2.1
              have hml := many_last ((P.zip V).take n) p.a (fun x hx => errP_times hno.out hx)
              have HJ := hide (fun W => judgeOf_any tx.i tx.k tx.f tx.t tx.z tx.r (many ((P.zip V).take n) p.a).2 (many ((P.zip V).take n) p.a).1 p.a p.g p.s p.m p.z W (by omega) (by omega) (HCR.out hE1).2.2.2.2 hml.2 hml.1)
              have hvd : verd T P V n p = judge tx.k tx.f tx.t tx.z tx.r (many ((P.zip V).take n) p.a).2 (many ((P.zip V).take n) p.a).1 p.m p.z := by
                unfold verd
                rw [hkk, show T.getD ((kk : Int)).toNat tk0 = tx by simp [List.getD, htx]]
              rw [← hvd] at HJ
              have HM := hide (fun W (h : TapsAt W (some A) P) (h' : IntsAt W (some A') V) => manyOf_any o1 (some A) (some A') T.length c1 c2 c3 P V p.a n W h h' (by omega) (by have := H4.out; omega) (by omega))
              generalize (many ((P.zip V).take n) p.a).2 = M2 at HJ HM
              generalize (many ((P.zip V).take n) p.a).1 = M1 at HJ HM
              generalize (verd T P V n p).2 = J2 at HJ
              generalize hJ1 : (verd T P V n p).1 = J1 at HJ hE6
              have hkl := (List.getElem?_eq_some_iff.1 htx).1
              have HTX := hide htx
              clear hvd hml hzz hkx htx hJ1
              have HZ := hide (show ∀ W, Below w.heap.size w W → Calls Try.prog 62 #[.slice (some A) P.length c2, .int .i64 n, tp p.a p.g p.s p.m p.z] W fun e w' => e = .returned (.bool false) ∧ Below W.heap.size W w' from fun W h => by
                have h' := isTwice_any (some A) c2 P n p.a p.g p.s p.m p.z W (HP.out.below h) (by omega) (by omega)
                rw [show twiceT (P.take n) ⟨p.a, p.g, p.s, p.m, p.z⟩ = false from hE3] at h'
                exact h')
              obtain rfl : v = J1 := hE6.symm
              clear hE6
              subst hE1
              clear hx hE hE3 HC HCR hE2
              go_wp2_with fail
              refine (HX.out _).mono ?_
              rintro e w1 ⟨rfl, hb1⟩
              obtain ⟨b1, y1⟩ := HY.out _ w1 b0 y0 hb1
              clear d0 d1 d2 hB e0 e1 e2 e3 e4 f0 hb1
              obtain ⟨d0, d1, d2, hB1⟩ := HD.out w1 b1
              obtain ⟨e0, e1, e2, e3, e4⟩ := y1
              go_wp2_with fail
              refine (ticketAt_any o1 _ T _ _ (HT.out.below hB1) (by omega)).mono ?_
              rintro e w1' ⟨rfl, hw1⟩
              obtain rfl := hw1.symm
              clear hw1
              rw [hkk]
              clear hkk
              go_wp2_with fail
              refine (HZ.out _ hB1).mono ?_
              rintro e w2 ⟨rfl, hb2⟩
              obtain ⟨b2, y2⟩ := HY.out _ w2 b1 ⟨e0, e1, e2, e3, e4⟩ hb2
              clear d0 d1 d2 e0 e1 e2 e3 e4 hb2 hB1
              obtain ⟨d0, d1, d2, hB2⟩ := HD.out w2 b2
              obtain ⟨e0, e1, e2, e3, e4⟩ := y2
              have hltV : n < V.length := by have := H4.out; omega
              obtain ⟨_, hA, f0⟩ := (HV.out.below hB2) n v HV'.out
              cases hA
              go_wp2_with fail
              refine (between_any _ _ _ _).mono ?_
              rintro e w2' ⟨rfl, hw2⟩
              obtain rfl := hw2.symm
              clear hw2
              rw [hE4]
              have h5 : n = 0 ∨ (∃ n' p', n = n' + 1 ∧ P[n']? = some p' ∧ ¬ p.m < p'.m) := by
                rcases Nat.eq_zero_or_pos n with h | h
                · exact Or.inl h
                · obtain ⟨n', hn'⟩ : ∃ n', n = n' + 1 := ⟨n - 1, by omega⟩
                  obtain ⟨p', hp'⟩ : ∃ p', P[n']? = some p' := ⟨P[n']'(by omega), by simp⟩
                  refine Or.inr ⟨n', p', hn', hp', fun hm => hE5 ⟨h, ?_⟩⟩
                  simpa [List.getD, hn', hp'] using hm
              clear hE5
              rcases h5 with h0 | ⟨n', p', hn', hp', hm⟩
              · subst h0
                rw [show A'.add 0 = A' from rfl] at f0
                go_wp2_with fail
                go_region
                go_wp2_with fail
                refine (HM.out _ (HP.out.below hB2.drew) (HV.out.below hB2.drew)).mono ?_
                rintro e w3 ⟨rfl, hb3⟩
                obtain ⟨b3, y3⟩ := HY.out _ w3 b2.drew ⟨e0, e1, e2, e3, e4⟩ hb3
                clear d0 d1 d2 e0 e1 e2 e3 e4 f0 hb3 hB2
                obtain ⟨d0, d1, d2, hB3⟩ := HD.out w3 b3
                obtain ⟨e0, e1, e2, e3, e4⟩ := y3
                obtain ⟨Bt, hBt, k0, k1, k2, k3, k4, k5⟩ := (HT.out.below hB3) kk tx HTX.out
                subst hBt
                go_wp2_with fail
                simp only [Nat.zero_add] at e0 e1 e2 e3 e4
                have q0 := cell_regrown d0
                have q1 := cell_regrown d1
                have q2 := cell_regrown d2
                have l0 := cell_regrown e0
                have l1 := cell_regrown e1
                have l2 := cell_regrown e2
                have l3 := cell_regrown e3
                have l4 := cell_regrown e4
                have m0 := cell_regrown k0
                have m1 := cell_regrown k1
                have m2 := cell_regrown k2
                have m3 := cell_regrown k3
                have m4 := cell_regrown k4
                have m5 := cell_regrown k5
                have cJ : ∀ d os, Calls Try.prog 14 #[tk tx.i tx.k tx.f tx.t tx.z tx.r, .int .i64 M2, .int .i64 M1, tp p.a p.g p.s p.m p.z] (Sort.grow (redrawn w3 d) os) fun e w'' => e = .returned (.tuple #[.int .i64 v, .int .i64 J2]) ∧ ∃ p : Regrown, w'' = Sort.grow (redrawn w3 p.d) p.os :=
                  fun d os => Calls.regrown_of (HJ.out _)
                clear k0 k1 k2 k3 k4 k5
                refine wp_region_quiet_below (by kernel_rfl) (by kernel_rfl) ?_
                repeat (quiet_step (exact cJ _ _))
                refine wpQuiet_nil ?_
                intro _ hw'
                obtain ⟨⟨dq, osq⟩, hw''⟩ := hw'
                subst hw''
                have b4 := b3.trans ((below_regrown w3 dq osq).mono (by have := b3.size; simp at this; omega))
                clear d0 d1 d2 e0 e1 e2 e3 e4 hB3 q0 q1 q2 l0 l1 l2 l3 l4 m0 m1 m2 m3 m4 m5 cJ
                generalize Sort.grow (redrawn w3 dq) osq = w4 at *
                obtain ⟨d0, d1, d2, hB4⟩ := HD.out w4 b4
                obtain ⟨_, hA, f0⟩ := (HV.out.below hB4) _ v HV'.out
                cases hA
                rw [show A'.add 0 = A' from rfl] at f0
                go_wp2_with fail
                exact ⟨⟨0 + 1, by omega, by simp, HR, b4⟩, by simp [intOf]; omega⟩
              · obtain ⟨_, hA, _, _, _, g3, _⟩ := (HP.out.below hB2) n' p' hp'
                cases hA
                subst hn'
                have HPp' := hide hp'
                clear hp'
                go_wp2_with fail
                go_region
                go_wp2_with fail
                refine (HM.out _ (HP.out.below hB2.drew) (HV.out.below hB2.drew)).mono ?_
                rintro e w3 ⟨rfl, hb3⟩
                obtain ⟨b3, y3⟩ := HY.out _ w3 b2.drew ⟨e0, e1, e2, e3, e4⟩ hb3
                clear d0 d1 d2 e0 e1 e2 e3 e4 f0 hb3 hB2
                obtain ⟨d0, d1, d2, hB3⟩ := HD.out w3 b3
                obtain ⟨e0, e1, e2, e3, e4⟩ := y3
                obtain ⟨Bt, hBt, k0, k1, k2, k3, k4, k5⟩ := (HT.out.below hB3) kk tx HTX.out
                subst hBt
                go_wp2_with fail
                simp only [Nat.zero_add] at e0 e1 e2 e3 e4
                have q0 := cell_regrown d0
                have q1 := cell_regrown d1
                have q2 := cell_regrown d2
                have l0 := cell_regrown e0
                have l1 := cell_regrown e1
                have l2 := cell_regrown e2
                have l3 := cell_regrown e3
                have l4 := cell_regrown e4
                have m0 := cell_regrown k0
                have m1 := cell_regrown k1
                have m2 := cell_regrown k2
                have m3 := cell_regrown k3
                have m4 := cell_regrown k4
                have m5 := cell_regrown k5
                have cJ : ∀ d os, Calls Try.prog 14 #[tk tx.i tx.k tx.f tx.t tx.z tx.r, .int .i64 M2, .int .i64 M1, tp p.a p.g p.s p.m p.z] (Sort.grow (redrawn w3 d) os) fun e w'' => e = .returned (.tuple #[.int .i64 v, .int .i64 J2]) ∧ ∃ p : Regrown, w'' = Sort.grow (redrawn w3 p.d) p.os :=
                  fun d os => Calls.regrown_of (HJ.out _)
                clear k0 k1 k2 k3 k4 k5
                refine wp_region_quiet_below (by kernel_rfl) (by kernel_rfl) ?_
                repeat (quiet_step (exact cJ _ _))
                refine wpQuiet_nil ?_
                intro _ hw'
                obtain ⟨⟨dq, osq⟩, hw''⟩ := hw'
                subst hw''
                have b4 := b3.trans ((below_regrown w3 dq osq).mono (by have := b3.size; simp at this; omega))
                clear d0 d1 d2 e0 e1 e2 e3 e4 hB3 q0 q1 q2 l0 l1 l2 l3 l4 m0 m1 m2 m3 m4 m5 cJ
                generalize Sort.grow (redrawn w3 dq) osq = w4 at *
                obtain ⟨d0, d1, d2, hB4⟩ := HD.out w4 b4
                obtain ⟨_, hA, f0⟩ := (HV.out.below hB4) _ v HV'.out
                cases hA
                rw [show A'.add (n' + 1) = ⟨A'.block, A'.off + (n' + 1), none⟩ from rfl] at f0
                go_wp2_with fail
                exact ⟨⟨n' + 1 + 1, by omega, by simp, HR, b4⟩, by simp [intOf]; omega⟩
          · obtain rfl : n = P.length := by omega
            have HR : Hid (chkL T P V = 0) := chkL_ok HN.out HK.out hno.out
            go_wp2_with fail
            go_ret
            exact ⟨by rw [HR.out]; rfl, hB⟩
end Go.Proofs.Ytcakfmpckbmdeab
