/-
  'checkTickets', 'checkTaps', 'Check' (package ledger): they say what the document says.
-/
import Derived.Test.YtcakfmpckbmdeabL5
namespace Go.Proofs.Ytcakfmpckbmdeab
open Go.RowKit

/-- what is wrong at the tickets -/
def ticksE (T : List TK) : Int := firstE ((List.range T.length).map (errK T))

theorem ticksE_at {T : List TK} {q : Nat} (h : ∀ j, j < q → errK T j = 0) (hq : q < T.length) (hne : errK T q ≠ 0) : ticksE T = errK T q := by
  rw [ticksE, ← List.append_nil ((List.range T.length).map _)]
  exact firstE_at _ _ _ _ h hq hne
theorem ticksE_ok {T : List TK} (h : ∀ j, j < T.length → errK T j = 0) : ticksE T = 0 := by
  rw [ticksE, ← List.append_nil ((List.range T.length).map _), firstE_all _ _ _ h]; rfl
theorem ticksE_all {T : List TK} (h : ticksE T = 0) : ∀ j, j < T.length → errK T j = 0 := fun j hj => firstE_mem _ h _ (List.mem_map.2 ⟨j, List.mem_range.2 hj, rfl⟩)

theorem errK_parts {T : List TK} {q : Nat} {p : TK} (hp : T[q]? = some p) (h : errK T q = 0) : chkK p = 0 ∧ ¬ (0 < q ∧ p.i ≤ (T.getD (q - 1) tk0).i) := by
  rcases errK_cases hp with ⟨h1, h2⟩ | ⟨h1, h2, h3, h4⟩ | ⟨h1, h2, h3⟩
  · exact absurd (h2.symm.trans h) h1
  · omega
  · exact ⟨h1, h2⟩

theorem rising_of {T : List TK} (h : ticksE T = 0) : Rising T := by
  have h0 := ticksE_all h
  have step : ∀ (n : Nat) (x y : TK), T[n]? = some x → T[n + 1]? = some y → x.i < y.i := by
    intro n x y hx hy
    have h1 := (errK_parts hy (h0 _ (List.getElem?_eq_some_iff.1 hy).1)).2
    rw [show T.getD (n + 1 - 1) tk0 = x by simp [List.getD, hx]] at h1
    omega
  intro p q x y hx hy hpq
  obtain ⟨d, rfl⟩ : ∃ d, q = p + 1 + d := ⟨q - (p + 1), by omega⟩
  clear hpq
  induction d generalizing y with
  | zero => exact step p x y hx hy
  | succ d ih =>
    obtain ⟨z, hz⟩ : ∃ z, T[p + 1 + d]? = some z := ⟨T[p + 1 + d]'(by have := (List.getElem?_eq_some_iff.1 hy).1; omega), by simp⟩
    have := ih z hz
    have := step (p + 1 + d) z y hz hy
    omega

theorem checked_of {T : List TK} (h : ticksE T = 0) : ∀ x ∈ T, chkK x = 0 := by
  intro x hx
  obtain ⟨n, hn⟩ := List.mem_iff_getElem?.1 hx
  exact (errK_parts hn (ticksE_all h n (List.getElem?_eq_some_iff.1 hn).1)).1

/-- the id of the one ahead; 0: there is none -/
def lastId (T : List TK) (q : Nat) : Int := if q = 0 then 0 else (T.getD (q - 1) tk0).i

theorem errK_ways {T : List TK} {q : Nat} {p : TK} (hp : T[q]? = some p) : ((chkK p != 0) = true ∧ errK T q = chkK p ∧ errK T q ≠ 0) ∨ (chkK p = 0 ∧ p.i ≤ lastId T q ∧ errK T q = 4) ∨ (chkK p = 0 ∧ ¬ p.i ≤ lastId T q ∧ errK T q = 0) := by
  rcases errK_cases hp with ⟨h1, h2⟩ | ⟨h1, h2, h3, h4⟩ | ⟨h1, h2, h3⟩
  · exact Or.inl ⟨by simpa using h1, h2, by rw [h2]; exact h1⟩
  · exact Or.inr (Or.inl ⟨h1, by rw [lastId, if_neg (by omega)]; exact h3, h4⟩)
  · refine Or.inr (Or.inr ⟨h1, ?_, h3⟩)
    rw [lastId]
    split
    · have := (chk_right h1).1; omega
    · omega

set_option maxHeartbeats 3200000 in
theorem checkTickets_any (T : List TK) (o1 o2 o3 : Option Addr) (c1 n2 c2 n3 c3 : Nat) (w : World) (hT : TiksAt w o1 T) (hlen : T.length ≤ 12) :
    Calls Try.prog 64 #[lg o1 o2 o3 T.length c1 n2 c2 n3 c3] w fun e w' => e = .returned (.int .i64 (ticksE T)) ∧ Below w.heap.size w w' := by
  have HT := hide hT
  clear hT
  have HA := hide (fun q (h1 : ∀ j, j < q → errK T j = 0) (h2 : q < T.length) (h3 : errK T q ≠ 0) => ticksE_at h1 h2 h3)
  have HO := hide (fun (h1 : ∀ j, j < T.length → errK T j = 0) => ticksE_ok h1)
  generalize ticksE T = R at *
  go_enter Try.func64, Try.ntmps64
  go_wp2_with fail
  go_loopw [3, 11] (fun l j wr => ∃ (q : Nat), q ≤ T.length ∧ j = .int .i64 q ∧ l = .int .i64 (lastId T q) ∧ Hid (∀ j, j < q → errK T j = 0) ∧ Below w.heap.size w wr) (fun _ j _ => T.length - (intOf j).toNat)
  case atStart => exact ⟨0, Nat.zero_le _, rfl, rfl, fun j hj => by omega, (Below.refl _ _).alloc (Nat.le_refl _) _⟩
  case round =>
    obtain ⟨q, hq, rfl, rfl, hF, hbr⟩ := hrel
    by_cases hgo : q < T.length
    · obtain ⟨p, hp⟩ : ∃ p, T[q]? = some p := ⟨T[q], by simp [hgo]⟩
      have hsz := hbr.size
      have hw := errK_ways hp
      have HL : Hid (lastId T (q + 1) = p.i) := by
        show _ = _
        rw [lastId, if_neg (by omega), Nat.add_sub_cancel]
        simp [List.getD, hp]
      obtain ⟨A, rfl, e0, e1, e2, e3, e4, e5⟩ := (HT.out.below hbr) q p hp
      clear hp
      generalize lastId T q = l at *
      go_wp2_with fail
      refine (check_any _ _ _ _ _ _ _).mono ?_
      rintro e w3 ⟨rfl, hb3⟩
      have HB3 : Hid (Below w.heap.size w w3) := by
        refine hide (Below.trans ?_ (hb3.mono ?_))
        · exact hbr.alloc hsz _
        · simp; omega
      have hcell : w3.cell? ⟨wr.heap.size, 0, none⟩ = some (.int .i64 p.i) := by
        rw [hb3.cell (p := ⟨wr.heap.size, 0, none⟩) (by simp)]
        simp [go_sem]
      clear hb3 hbr e0 e1 e2 e3 e4 e5
      have hk : chk p.i p.k p.f p.t p.z p.r = chkK p := rfl
      rw [hk]
      clear hk
      generalize chkK p = X at *
      rcases hw with ⟨h1, h2, h3⟩ | ⟨rfl, h2, h3⟩ | ⟨rfl, h2, h3⟩
      · have HR := hide ((HA.out q hF.out hgo h3).trans h2)
        clear h3 h2
        go_wp2_with fail
        go_ret
        exact ⟨by rw [HR.out]; rfl, HB3.out⟩
      · have HR := hide ((HA.out q hF.out hgo (by omega)).trans h3)
        clear h3
        go_wp2_with fail
        go_ret
        exact ⟨by rw [HR.out]; rfl, HB3.out⟩
      · have HN : Hid (∀ j, j < q + 1 → errK T j = 0) := fun j hj => by
          rcases Nat.lt_or_ge j q with h | h
          · exact hF.out j h
          · obtain rfl : j = q := by omega
            exact h3
        clear h3
        go_wp2_with fail
        exact ⟨⟨q + 1, by omega, by simp, by rw [HL.out], HN, HB3.out⟩, by simp [intOf]; omega⟩
    · obtain rfl : q = T.length := by omega
      have HR := hide (HO.out hF.out)
      go_wp2_with fail
      go_ret
      exact ⟨by rw [HR.out]; rfl, hbr⟩

/-- what is wrong at the taps -/
def tapsE (T : List TK) (P : List TP) (V : List Int) : Int := firstE ((List.range P.length).map (errP T P V))

theorem tapsE_at {T : List TK} {P : List TP} {V : List Int} {q : Nat} (h : ∀ j, j < q → errP T P V j = 0) (hq : q < P.length) (hne : errP T P V q ≠ 0) : tapsE T P V = errP T P V q := by
  rw [tapsE, ← List.append_nil ((List.range P.length).map _)]
  exact firstE_at _ _ _ _ h hq hne
theorem tapsE_ok {T : List TK} {P : List TP} {V : List Int} (h : ∀ j, j < P.length → errP T P V j = 0) : tapsE T P V = 0 := by
  rw [tapsE, ← List.append_nil ((List.range P.length).map _), firstE_all _ _ _ h]; rfl

theorem errP_chk {T : List TK} {P : List TP} {V : List Int} {j : Nat} {p : TP} (hp : P[j]? = some p) (h : errP T P V j = 0) : chkT p = 0 := by
  have := firstE_mem _ h (chkT (P.getD j tp0)) (by simp)
  rwa [show P.getD j tp0 = p by simp [List.getD, hp]] at this

theorem zip_take (P : List TP) (V : List Int) (q : Nat) : (P.take q).zip (V.take q) = (P.zip V).take q := by
  show List.zipWith Prod.mk (P.take q) (V.take q) = (List.zipWith Prod.mk P V).take q
  rw [List.take_zipWith]

theorem early_at {P : List TP} {q : Nat} (m : Int) (hq : q ≤ P.length) : earlyB (P.take q) m = decide (0 < q ∧ m < (P.getD (q - 1) tp0).m) := by
  unfold earlyB
  rw [List.getLast?_eq_getElem?, List.length_take, Nat.min_eq_left hq]
  rcases q with _ | n
  · simp
  · obtain ⟨x, hx⟩ : ∃ x, P[n]? = some x := ⟨P[n]'(by omega), by simp⟩
    rw [Nat.add_sub_cancel, List.getElem?_take, if_pos (by omega), hx]
    simp [List.getD, hx]

theorem tapE_errP {T : List TK} {P : List TP} {V : List Int} {q : Nat} {p : TP} {v : Int} (hr : Rising T) (hT : ∀ x ∈ T, chkK x = 0) (hq : q ≤ 60) (hP : ∀ x ∈ P.take q, chkT x = 0) (hp : P[q]? = some p) (hv : V[q]? = some v) :
    tapE T (P.take q) (V.take q) p v = errP T P V q := by
  have gp : P.getD q tp0 = p := by simp [List.getD, hp]
  have gv : V.getD q 0 = v := by simp [List.getD, hv]
  unfold tapE errP
  rw [gp, gv, early_at p.m (Nat.le_of_lt (List.getElem?_eq_some_iff.1 hp).1), zip_take]
  by_cases h1 : chkT p = 0
  · cases h2 : hasT T p.a
    · have hi := hasT_idx.2 h2
      simp [unf, firstE, h1, h2, hi]
    · have hi : ¬ idxT T p.a < 0 := fun h => by rw [hasT_idx.1 h] at h2; cases h2
      rw [judB_verd hr hT hP hq h1 h2]
      cases h3 : twiceT (P.take q) p
      · simp [unf, firstE, h1, h2, hi, h3]
      · simp [unf, firstE, h1, h2, hi, h3]
  · simp [unf, firstE, h1]

end Go.Proofs.Ytcakfmpckbmdeab
