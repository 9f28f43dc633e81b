/-
  'wrong' (package rule): why there is nothing to judge.
-/
import Derived.Test.YtcakfmpckbmdeacP2
namespace Go.Proofs.Ytcakfmpckbmdeac
open Go.RowKit

theorem firstE_mis (i : Int) (L : List TP) : firstE (L.map (misT i)) = if L.any (fun p => p.a != i) = true then 4 else 0 := by
  induction L with
  | nil => simp [firstE]
  | cons p L ih =>
    by_cases h : p.a = i
    · simp only [List.map_cons, firstE, misT, h, if_true, List.any_cons]
      rw [show (misT i) = misT i from rfl] at ih
      simpa using ih
    · simp [firstE, misT, h]

theorem firstE_zero (l k : List Int) (h : firstE l = 0) : firstE (l ++ k) = firstE k := by
  induction l with
  | nil => rfl
  | cons e l ih =>
    by_cases he : e = 0
    · simp [firstE, he] at h ⊢
      exact ih h
    · simp [firstE, he] at h

/-- the end of it: all are checked -/
theorem errJ_end (i k f t z r rides : Int) (p : TP) (L : List TP) (h1 : chk i k f t z r = 0) (h2 : chkT p = 0) (h3 : wi rides 0 60 = true) (h4 : firstE (L.map chkT) = 0) :
    errJ i k f t z r rides p L = if ((p.a != i) || L.any (fun p => p.a != i)) = true then 4 else 0 := by
  unfold errJ
  rw [List.append_assoc, List.append_assoc, firstE_zero _ _ (by simp [firstE, h1, h2, h3]), firstE_zero _ _ h4]
  by_cases h : p.a = i
  · have := firstE_mis i L
    simp only [List.cons_append, List.nil_append, firstE, misT, h, if_true, bne_self_eq_false, Bool.false_or] at this ⊢
    exact this
  · simp [firstE, misT, h]

theorem errJ_was (i k f t z r rides : Int) (p : TP) (L : List TP) (h1 : chk i k f t z r = 0) (h2 : chkT p = 0) (h3 : wi rides 0 60 = true) (q : Nat) (x : TP) (hx : L[q]? = some x) (h4 : firstE ((L.take q).map chkT) = 0) (h5 : chkT x ≠ 0) :
    errJ i k f t z r rides p L = chkT x := by
  unfold errJ
  rw [List.append_assoc, List.append_assoc, firstE_zero _ _ (by simp [firstE, h1, h2, h3])]
  have : L.map chkT = ((L.take q).map chkT ++ [chkT x]) ++ (L.drop (q + 1)).map chkT := by
    have hq : q < L.length := (List.getElem?_eq_some_iff.mp hx).1
    rw [← List.map_singleton, ← List.map_append, ← List.map_append]
    congr 1
    rw [show [x] = [L[q]] by rw [(List.getElem?_eq_some_iff.mp hx).2], List.take_append_getElem, List.take_append_drop]
  rw [this, List.append_assoc, List.append_assoc, firstE_zero _ _ h4]
  simp [firstE, h5]

set_option maxHeartbeats 3200000 in
theorem wrong_any (i k f t z r rides a g s m zone : Int) (o : Option Addr) (cap : Nat) (L : List TP) (w : World) (hL : TapsAt w o L) (hlen : L.length ≤ 9223372036854775807) :
    Calls Try.prog 104 #[tk i k f t z r, .slice o L.length cap, .int .i64 rides, tp a g s m zone] w fun e w' =>
      e = .returned (.int .i64 (errJ i k f t z r rides ⟨a, g, s, m, zone⟩ L)) ∧ Below w.heap.size w w' := by
  have HL := hide hL
  clear hL
  have HW := hide (fun (h1 : chk i k f t z r = 0) (h2 : chkP a g s m zone = 0) (h3 : wi rides 0 60 = true) => errJ_was i k f t z r rides ⟨a, g, s, m, zone⟩ L h1 h2 h3)
  have HE := hide (fun (h1 : chk i k f t z r = 0) (h2 : chkP a g s m zone = 0) (h3 : wi rides 0 60 = true) => errJ_end i k f t z r rides ⟨a, g, s, m, zone⟩ L h1 h2 h3)
  have hways : ((chk i k f t z r != 0) = true ∧ errJ i k f t z r rides ⟨a, g, s, m, zone⟩ L = chk i k f t z r) ∨ (chk i k f t z r = 0 ∧ (chkP a g s m zone != 0) = true ∧ errJ i k f t z r rides ⟨a, g, s, m, zone⟩ L = chkP a g s m zone) ∨
      (chk i k f t z r = 0 ∧ chkP a g s m zone = 0 ∧ wi rides 0 60 = false ∧ errJ i k f t z r rides ⟨a, g, s, m, zone⟩ L = 3) ∨ (chk i k f t z r = 0 ∧ chkP a g s m zone = 0 ∧ wi rides 0 60 = true) := by
    unfold errJ
    by_cases h1 : chk i k f t z r = 0
    · by_cases h2 : chkP a g s m zone = 0
      · cases h3 : wi rides 0 60
        · simp [firstE, chkT, h1, h2]
        · simp [h1, h2]
      · simp [firstE, chkT, h1, h2]
    · simp [firstE, h1]
  generalize errJ i k f t z r rides ⟨a, g, s, m, zone⟩ L = R at *
  have HT := hide (fun W => check_any i k f t z r W)
  have HP := hide (fun W => checkP_any a g s m zone W)
  generalize chk i k f t z r = X at HT hways HW HE
  generalize chkP a g s m zone = Y at HP hways HW HE
  rcases hways with ⟨h1, rfl⟩ | ⟨h1, h2, rfl⟩ | ⟨h1, h2, h3, rfl⟩ | ⟨h1, h2, h3⟩
  · go_enter Try.func104, Try.ntmps104
    go_wp2_with fail
    refine (HT.out _).mono ?_
    rintro e wB ⟨rfl, hb1⟩
    obtain ⟨hc, hf⟩ := bcell hb1
    go_wp2_with fail
    go_ret
    exact ⟨rfl, ((((Below.refl w.heap.size w).alloc (Nat.le_refl _) _).alloc (by simp) _).trans (hb1.mono (by simp; omega)))⟩
  · subst h1
    go_enter Try.func104, Try.ntmps104
    go_wp2_with fail
    refine (HT.out _).mono ?_
    rintro e wB ⟨rfl, hb1⟩
    obtain ⟨hc, hf⟩ := bcell hb1
    go_wp2_with fail
    refine (HP.out _).mono ?_
    rintro e wC ⟨rfl, hb2⟩
    have HB := hide (((((Below.refl w.heap.size w).alloc (Nat.le_refl _) _).alloc (by simp) _).trans (hb1.mono (by simp; omega))).trans (hb2.mono (by have := hb1.size; simp at this; omega)))
    clear hb1 hb2
    go_wp2_with fail
    go_ret
    exact ⟨rfl, HB.out⟩
  all_goals
    subst h1
    subst h2
    go_enter Try.func104, Try.ntmps104
    go_wp2_with fail
    refine (HT.out _).mono ?_
    rintro e w1 ⟨rfl, hb1⟩
    obtain ⟨hc, hf⟩ := bcell hb1
    go_wp2_with fail
    refine (HP.out _).mono ?_
    rintro e wC ⟨rfl, hb2⟩
    have HB := hide (((((Below.refl w.heap.size w).alloc (Nat.le_refl _) _).alloc (by simp) _).trans (hb1.mono (by simp; omega))).trans (hb2.mono (by have := hb1.size; simp at this; omega)))
    have HC := hide (show wC.cell? ⟨w.heap.size, 0, none⟩ = some (.int .i64 i) ∧ Tap5 wC ⟨w.heap.size + 1, 0, none⟩ ⟨a, g, s, m, zone⟩ ∧ w.heap.size + 1 < wC.heap.size by
      have s1 := hb1.size
      have s2 := hb2.size
      simp at s1
      refine ⟨?_, ⟨?_, ?_, ?_, ?_, ?_⟩, by omega⟩
      · rw [hb2.cell (p := ⟨w.heap.size, 0, none⟩) (show w.heap.size < w1.heap.size by omega), hc _ _ (by simp; omega)]
        simp [go_sem]
      all_goals
        rw [hb2.cell (show w.heap.size + 1 < w1.heap.size by omega), hc _ _ (by simp)]
        simp [go_sem])
    clear hb1 hb2 hc hf
    go_wp2_with (go_at_call 79; refine (within_any _ _ _ _).mono ?_; rintro e wD ⟨rfl, hwD⟩; obtain rfl := hwD.symm)
  · go_ret
    exact ⟨rfl, HB.out⟩
  · have HW' := hide (HW.out trivial trivial h3)
    have HE' := hide (HE.out trivial trivial h3)
    clear HW HE
    go_loopw [31] (fun j wr => ∃ (q : Nat), q ≤ L.length ∧ j = .int .i64 q ∧ Hid (firstE ((L.take q).map chkT) = 0) ∧ Below wC.heap.size wC wr) (fun j _ => L.length - (intOf j).toNat)
    case atStart => exact ⟨0, Nat.zero_le _, rfl, by show _ = _; simp [firstE], Below.refl _ _⟩
    case round =>
      obtain ⟨q, hq, rfl, hF, hbr⟩ := hrel
      have HBB := hide (HB.out.trans (hbr.mono HB.out.size))
      by_cases hgo : q < L.length
      · obtain ⟨p, hp⟩ : ∃ p, L[q]? = some p := ⟨L[q], by simp [hgo]⟩
        have HS : Hid (chkP p.a p.g p.s p.m p.z = 0 → firstE ((L.take (q + 1)).map chkT) = 0) := by
          show _ → _
          intro h0
          rw [List.take_add_one, hp, Option.toList_some, List.map_append, List.map_singleton, firstE_snoc, if_pos hF.out]
          exact h0
        have HS2 := hide (HW'.out q p hp hF.out)
        obtain ⟨A, rfl, c0, c1, c2, c3, c4⟩ := (HL.out.below HBB.out) q p hp
        clear hp
        go_wp2_with fail
        refine (checkP_any _ _ _ _ _ _).mono ?_
        rintro e w3 ⟨rfl, hb3⟩
        have HB3 : Hid (Below wr.heap.size wr w3) := by
          refine hide (Below.trans ?_ (hb3.mono ?_))
          · repeat (first | with_reducible exact Below.refl _ _ | with_reducible refine Below.alloc ?_ (by simp) _ | with_reducible refine Below.setCell ?_ (by simp) _)
          · simp
        have HB4 := hide (hbr.trans (HB3.out.mono hbr.size))
        clear hb3 hbr
        cases hx : (chkP p.a p.g p.s p.m p.z != 0)
        · go_wp2_with fail
          exact ⟨⟨q + 1, by omega, by simp, HS.out (by simpa using hx), HB4.out⟩, by simp [intOf]; omega⟩
        · go_wp2_with fail
          go_ret
          exact ⟨by rw [HS2.out (by simpa [chkT] using hx)]; rfl, HBB.out.trans (HB3.out.mono HBB.out.size)⟩
      · have HF : Hid (R = if (a != i || L.any fun p => p.a != i) = true then 4 else 0) := by
          have h1 := hF.out
          rw [List.take_of_length_le (by omega)] at h1
          exact HE'.out h1
        obtain ⟨b0, b1, b2⟩ := HC.out
        have d0 : wr.cell? ⟨w.heap.size, 0, none⟩ = some (.int .i64 i) := by rw [hbr.cell (p := ⟨w.heap.size, 0, none⟩) (show w.heap.size < wC.heap.size by omega)]; exact b0
        obtain ⟨c0, c1, c2, c3, c4⟩ := b1.below hbr b2
        clear b0 b1 b2
        have hl0 : w.heap.size < wr.heap.size := World.block_lt_of_cell? wr ⟨w.heap.size, 0, none⟩ d0
        simp at c0 c1 c2 c3 c4
        cases hx : (a != i)
        · rw [hx] at HF
          cases hy : L.any (fun p => p.a != i)
          all_goals
            rw [hy] at HF
            go_wp2_with fail
            refine (wrong1_any _ _ _ _ _ i _ _ d0).mono ?_
            rintro e w3 ⟨rfl, hb3⟩
            have d1 : w3.cell? ⟨w.heap.size, 0, none⟩ = some (.int .i64 i) := by rw [hb3.cell (p := ⟨w.heap.size, 0, none⟩) hl0]; exact d0
            go_wp2_with fail
            refine (containsW_any i _ o cap L w3 ((HL.out.below HBB.out).below hb3) hlen d1).mono ?_
            rintro e w4 ⟨rfl, hb4⟩
            go_wp2_with fail
            go_ret
            exact ⟨by rw [HF.out]; rfl, (HBB.out.trans (hb3.mono HBB.out.size)).trans (hb4.mono (Nat.le_trans HBB.out.size hb3.size))⟩
        · rw [hx] at HF
          go_wp2_with fail
          refine (wrong1_any _ _ _ _ _ i _ _ d0).mono ?_
          rintro e w3 ⟨rfl, hb3⟩
          go_wp2_with fail
          go_ret
          exact ⟨by rw [HF.out]; rfl, (HBB.out.trans (hb3.mono HBB.out.size))⟩

end Go.Proofs.Ytcakfmpckbmdeac
