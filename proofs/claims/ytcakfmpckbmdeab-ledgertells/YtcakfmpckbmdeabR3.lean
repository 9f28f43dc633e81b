/-
  The document's answers on taps: 'CheckJudge' (package leeboardref): taps that lie in memory.
-/
import Derived.Test.YtcakfmpckbmdeabR2
namespace Go.Proofs.Ytcakfmpckbmdeab
open Go.RowKit

/-- a tap -/
structure TP where
  a : Int
  g : Int
  s : Int
  m : Int
  z : Int

/-- a tap that lies in memory -/
structure Tap5 (w : World) (b : Addr) (p : TP) : Prop where
  c0 : w.cell? b = some (.int .i64 p.a)
  c1 : w.cell? ⟨b.block, b.off + 1, none⟩ = some (.int .i64 p.g)
  c2 : w.cell? ⟨b.block, b.off + 2, none⟩ = some (.int .i64 p.s)
  c3 : w.cell? ⟨b.block, b.off + 3, none⟩ = some (.int .i64 p.m)
  c4 : w.cell? ⟨b.block, b.off + 4, none⟩ = some (.int .i64 p.z)

theorem Tap5.lt {w : World} {b : Addr} {p : TP} (h : Tap5 w b p) : b.block < w.heap.size := World.block_lt_of_cell? w b h.c0

theorem Tap5.below {B : Nat} {w w' : World} {b : Addr} {p : TP} (h : Tap5 w b p) (hb : Below B w w') (hlt : b.block < B) : Tap5 w' b p :=
  ⟨by rw [hb.cell hlt]; exact h.c0, by rw [hb.cell (p := ⟨b.block, b.off + 1, none⟩) hlt]; exact h.c1, by rw [hb.cell (p := ⟨b.block, b.off + 2, none⟩) hlt]; exact h.c2,
    by rw [hb.cell (p := ⟨b.block, b.off + 3, none⟩) hlt]; exact h.c3, by rw [hb.cell (p := ⟨b.block, b.off + 4, none⟩) hlt]; exact h.c4⟩

/-- taps that lie in memory from an address on -/
def TapsAt (w : World) (o : Option Addr) (L : List TP) : Prop := ∀ i p, L[i]? = some p → ∃ b, o = some b ∧ Tap5 w (b.add (i * 5)) p

theorem TapsAt.below {w w' : World} {o : Option Addr} {L : List TP} (h : TapsAt w o L) (hb : Below w.heap.size w w') : TapsAt w' o L :=
  fun i p hi => have ⟨b, e, h5⟩ := h i p hi; ⟨b, e, h5.below hb h5.lt⟩

def chkT (p : TP) : Int := chkP p.a p.g p.s p.m p.z

def misT (i : Int) (p : TP) : Int := if p.a = i then 0 else 4

/-- the first error among some -/
def firstE : List Int → Int
  | [] => 0
  | e :: l => if e = 0 then firstE l else e

theorem firstE_snoc (l : List Int) (x : Int) : firstE (l ++ [x]) = if firstE l = 0 then x else firstE l := by
  induction l with
  | nil => by_cases h : x = 0 <;> simp [firstE, h]
  | cons e l ih =>
    by_cases h : e = 0
    · simp [firstE, h, ih]
    · simp [firstE, h]

theorem firstE_stop (l k : List Int) (h : firstE l ≠ 0) : firstE (l ++ k) = firstE l := by
  induction l with
  | nil => exact absurd rfl h
  | cons e l ih =>
    by_cases he : e = 0
    · simp [firstE, he] at h ⊢
      exact ih h
    · simp [firstE, he]

theorem firstE_take (E0 : Int) (L : List TP) (f : TP → Int) (q : Nat) (E : Int) (h : E = firstE (E0 :: (L.take q).map f)) (hx : ¬ (q < L.length ∧ E = 0)) : E = firstE (E0 :: L.map f) := by
  by_cases hq : q < L.length
  · have hE : E ≠ 0 := fun e => hx ⟨hq, e⟩
    rw [h] at hE ⊢
    have := firstE_stop _ ((L.drop q).map f) hE
    rw [List.cons_append, ← List.map_append, List.take_append_drop] at this
    exact this.symm
  · rw [h, List.take_of_length_le (by omega)]

theorem firstE_append (l k : List Int) : firstE (l ++ k) = firstE (firstE l :: k) := by
  by_cases h : firstE l = 0
  · rw [h]
    induction l with
    | nil => simp [firstE]
    | cons e l ih =>
      by_cases he : e = 0
      · simp [firstE, he] at h ih ⊢
        exact ih h
      · simp [firstE, he] at h
  · rw [firstE_stop _ _ h]
    simp [firstE, h]

theorem firstE_take' (G : List Int) (L : List TP) (f : TP → Int) (q : Nat) (E : Int) (h : E = firstE (G ++ (L.take q).map f)) (hx : ¬ (q < L.length ∧ E = 0)) : E = firstE (G ++ L.map f) := by
  rw [firstE_append] at h ⊢
  exact firstE_take _ L f q E h hx

/-- what the document's answer says of what is handed to Judge -/
def errJ (i k f t z r rides : Int) (p : TP) (L : List TP) : Int :=
  firstE ([chk i k f t z r, chkT p, if wi rides 0 60 = true then 0 else 3] ++ L.map chkT ++ [misT i p] ++ L.map (misT i))

set_option maxHeartbeats 6400000 in
theorem checkJudge_any (i k f t z r rides a g s m zone : Int) (o : Option Addr) (cap : Nat) (L : List TP) (w : World) (hL : TapsAt w o L) (hlen : L.length ≤ 9223372036854775807) :
    Calls Try.prog 13 #[tk i k f t z r, .slice o L.length cap, .int .i64 rides, tp a g s m zone] w fun e w' =>
      e = .returned (.int .i64 (errJ i k f t z r rides ⟨a, g, s, m, zone⟩ L)) ∧ Below w.heap.size w w' := by
  have HL := hide hL
  clear hL
  obtain ⟨R, hR⟩ : ∃ R, errJ i k f t z r rides ⟨a, g, s, m, zone⟩ L = R := ⟨_, rfl⟩
  obtain ⟨E0, hE0⟩ : ∃ E0, E0 = firstE [chk i k f t z r, chkT ⟨a, g, s, m, zone⟩, if wi rides 0 60 = true then 0 else 3] := ⟨_, rfl⟩
  have HR : Hid (firstE ((E0 :: L.map chkT ++ [misT i ⟨a, g, s, m, zone⟩]) ++ L.map (misT i)) = R) := by
    show _ = _
    rw [← hR, errJ]
    simp only [List.append_assoc]
    rw [firstE_append [_, _, _], ← hE0]
    rfl
  rw [hR]
  clear hR
  have hways : ((chk i k f t z r == 0) = false ∧ E0 = chk i k f t z r) ∨ (chk i k f t z r = 0 ∧ (chkP a g s m zone == 0) = false ∧ E0 = chkP a g s m zone) ∨
      (chk i k f t z r = 0 ∧ chkP a g s m zone = 0 ∧ wi rides 0 60 = false ∧ E0 = 3) ∨ (chk i k f t z r = 0 ∧ chkP a g s m zone = 0 ∧ wi rides 0 60 = true ∧ E0 = 0) := by
    by_cases h1 : chk i k f t z r = 0
    · by_cases h2 : chkP a g s m zone = 0
      · cases h3 : wi rides 0 60
        · simp [hE0, firstE, chkT, h1, h2, h3]
        · simp [hE0, firstE, chkT, h1, h2, h3]
      · simp [hE0, firstE, chkT, h1, h2]
    · simp [hE0, firstE, h1]
  clear hE0
  have HT := hide (fun W => checkT_any i k f t z r W)
  have HP := hide (fun W => checkTap_any a g s m zone W)
  generalize chk i k f t z r = X at HT hways
  generalize chkP a g s m zone = Y at HP hways
  rcases hways with ⟨h1, hE⟩ | ⟨h1, h2, hE⟩ | ⟨h1, h2, h3, hE⟩ | ⟨h1, h2, h3, hE⟩
  · go_enter Try.func13, Try.ntmps13
    go_wp2_with fail
    refine (HT.out _).mono ?_
    rintro e wB ⟨rfl, hb1⟩
    obtain ⟨hc, hf⟩ := bcell hb1
    go_wp2_with fail
    have HW := hide ((((Below.refl w.heap.size w).alloc (Nat.le_refl _) _).alloc (by simp) _).trans (hb1.mono (by simp; omega)))
    have HB := hide (show wB.cell? ⟨w.heap.size, 0, none⟩ = some (.int .i64 i) ∧ wB.cell? ⟨w.heap.size + 1, 0, none⟩ = some (.int .i64 a) ∧ w.heap.size + 1 < wB.heap.size by
      have s1 := hb1.size
      simp at s1
      refine ⟨?_, ?_, by omega⟩
      · rw [hc _ _ (by simp; omega)]
        simp [go_sem]
      · rw [hc _ _ (by simp)]
        simp [go_sem])
    clear hb1 hc hf
    go_loopw [9, 10] (fun e i wr => ∃ (q : Nat) (E : Int), q ≤ L.length ∧ i = .int .i64 q ∧ e = .int .i64 E ∧ Hid (E = firstE (E0 :: (L.take q).map chkT)) ∧ Below wB.heap.size wB wr) (fun _ i _ => L.length - (intOf i).toNat)
    case atStart => exact ⟨0, _, Nat.zero_le _, rfl, rfl, by show _ = _; rw [hE]; simp [firstE], Below.refl _ _⟩
    case round =>
      clear hE
      obtain ⟨q, E, hq, rfl, rfl, hF, hbr⟩ := hrel
      by_cases hgo : q < L.length ∧ E = 0
      · obtain ⟨hlt, hE⟩ := hgo
        subst hE
        obtain ⟨p, hp⟩ : ∃ p, L[q]? = some p := ⟨L[q], by simp [hlt]⟩
        have HS : Hid (chkP p.a p.g p.s p.m p.z = firstE (E0 :: (L.take (q + 1)).map chkT)) := by
          show _ = _
          rw [List.take_add_one, hp, Option.toList_some, List.map_append, List.map_singleton, ← List.cons_append, firstE_snoc, if_pos hF.out.symm]
          rfl
        obtain ⟨A, rfl, c0, c1, c2, c3, c4⟩ := ((HL.out.below HW.out).below hbr) q p hp
        clear hp
        go_wp2_with fail
        refine (checkTap_any _ _ _ _ _ _).mono ?_
        rintro e w3 ⟨rfl, hb3⟩
        have hbr3 := hbr.trans (hb3.mono hbr.size)
        clear hbr hb3
        go_wp2_with fail
        exact ⟨⟨q + 1, _, by omega, by simp, rfl, HS, hbr3⟩, by simp [intOf]; omega⟩
      · have hE1 := firstE_take E0 L chkT q E hF.out hgo
        have hx : (¬ q < L.length) ∨ (q < L.length ∧ (E == 0) = false) := by
          by_cases h : q < L.length
          · exact Or.inr ⟨h, by simpa using fun h' => hgo ⟨h, h'⟩⟩
          · exact Or.inl h
        clear hgo hF
        obtain ⟨b0, b1, b2⟩ := HB.out
        have d0 : wr.cell? ⟨w.heap.size, 0, none⟩ = some (.int .i64 i) := by rw [hbr.cell (p := ⟨w.heap.size, 0, none⟩) (show w.heap.size < wB.heap.size by omega)]; exact b0
        have d1 : wr.cell? ⟨w.heap.size + 1, 0, none⟩ = some (.int .i64 a) := by rw [hbr.cell (p := ⟨w.heap.size + 1, 0, none⟩) (show w.heap.size + 1 < wB.heap.size by omega)]; exact b1
        clear b0 b1
        generalize hG : firstE (E0 :: L.map chkT ++ [misT i ⟨a, g, s, m, zone⟩]) = G
        have hpick : ((E == 0) = true ∧ (a != i) = true ∧ G = 4) ∨ ((E == 0) = true ∧ (a != i) = false ∧ G = E) ∨ ((E == 0) = false ∧ G = E) := by
          rw [firstE_snoc, ← hE1] at hG
          by_cases h : E = 0
          · by_cases h' : a = i
            · simp [h, h', misT] at hG
              simp [h, h', ← hG]
            · simp [h, h', misT] at hG
              simp [h, h', ← hG]
          · simp [h] at hG
            simp [h, ← hG]
        have HG := hide hG
        clear hG hE1
        have HX := hide (show Below w.heap.size w wr from HW.out.trans (hbr.mono HW.out.size))
        clear hbr
        generalize wr = wq at *
        rcases hx with h1 | ⟨h1, h2⟩ <;> rcases hpick with ⟨h3, h4, rfl⟩ | ⟨h3, h4, rfl⟩ | ⟨h3, rfl⟩
        all_goals first | (exfalso; simp_all; done) | skip
        all_goals
          go_wp2_with fail
          go_loopw [9, 11] (fun e j ws => ∃ (n : Nat) (F : Int), n ≤ L.length ∧ j = .int .i64 n ∧ e = .int .i64 F ∧ Hid (F = firstE ((E0 :: L.map chkT ++ [misT i ⟨a, g, s, m, zone⟩]) ++ (L.take n).map (misT i))) ∧ Below wq.heap.size wq ws) (fun _ j _ => L.length - (intOf j).toNat)
          case atStart => exact ⟨0, _, Nat.zero_le _, rfl, rfl, by show _ = _; rw [List.take_zero, List.map_nil, List.append_nil, HG.out], Below.refl _ _⟩
          case round =>
            obtain ⟨n, F, hn, rfl, rfl, hFF, hbs⟩ := hrel
            have hs1 := World.block_lt_of_cell? wq ⟨w.heap.size, 0, none⟩ d0
            have x0 : wr.cell? ⟨w.heap.size, 0, none⟩ = some (.int .i64 i) := by rw [hbs.cell (p := ⟨w.heap.size, 0, none⟩) hs1]; exact d0
            have HBB := hide (HX.out.trans (hbs.mono HX.out.size))
            by_cases hgo : n < L.length ∧ F = 0
            · obtain ⟨hlt, hE⟩ := hgo
              subst hE
              obtain ⟨p, hp⟩ : ∃ p, L[n]? = some p := ⟨L[n], by simp [hlt]⟩
              have HS : Hid (misT i p = firstE ((E0 :: L.map chkT ++ [misT i ⟨a, g, s, m, zone⟩]) ++ (L.take (n + 1)).map (misT i))) := by
                show _ = _
                rw [List.take_add_one, hp, Option.toList_some, List.map_append, List.map_singleton, ← List.append_assoc, firstE_snoc, if_pos hFF.out.symm]
              obtain ⟨A, rfl, c0, _, _, _, _⟩ := (HL.out.below HBB.out) n p hp
              clear hp
              have hpick : ((p.a != i) = true ∧ misT i p = 4) ∨ ((p.a != i) = false ∧ misT i p = 0) := by
                by_cases h : p.a = i <;> simp [h, misT]
              rcases hpick with ⟨hm, hm'⟩ | ⟨hm, hm'⟩
              all_goals
                rw [hm'] at HS
                clear hm'
                go_wp2
                go_region
                go_wp2_with fail
                exact ⟨⟨n + 1, _, by omega, by simp, rfl, HS, hbs.drew⟩, by simp [intOf]; omega⟩
            · have HE2 : Hid (F = R) := (firstE_take' _ L (misT i) n F hFF.out hgo).trans HR.out
              have hx : (¬ n < L.length) ∨ (n < L.length ∧ (F == 0) = false) := by
                by_cases h : n < L.length
                · exact Or.inr ⟨h, by simpa using fun h' => hgo ⟨h, h'⟩⟩
                · exact Or.inl h
              clear hgo hFF
              rcases hx with h5 | ⟨h5, h6⟩
              all_goals
                go_wp2_with fail
                go_ret
                exact ⟨by rw [← HE2.out]; rfl, HBB.out⟩
  all_goals
    subst h1
    try subst h2
    go_enter Try.func13, Try.ntmps13
    go_wp2_with fail
    refine (HT.out _).mono ?_
    rintro e w1 ⟨rfl, hb1⟩
    obtain ⟨hc, hf⟩ := bcell hb1
    go_wp2_with fail
    refine (HP.out _).mono ?_
    rintro e wB ⟨rfl, hb2⟩
    go_wp2_with (go_at_call 44; refine (between_any _ _ _ _).mono ?_; rintro e wC ⟨rfl, hwC⟩; obtain rfl := hwC.symm)
    have HW := hide ((((Below.refl w.heap.size w).alloc (Nat.le_refl _) _).alloc (by simp) _).trans (hb1.mono (by simp; omega)) |>.trans (hb2.mono (by have := hb1.size; simp at this; omega)))
    have HB := hide (show wB.cell? ⟨w.heap.size, 0, none⟩ = some (.int .i64 i) ∧ wB.cell? ⟨w.heap.size + 1, 0, none⟩ = some (.int .i64 a) ∧ w.heap.size + 1 < wB.heap.size by
      have s1 := hb1.size
      have s2 := hb2.size
      simp at s1
      refine ⟨?_, ?_, by omega⟩
      · rw [hb2.cell (p := ⟨w.heap.size, 0, none⟩) (show w.heap.size < w1.heap.size by omega), hc _ _ (by simp; omega)]
        simp [go_sem]
      · rw [hb2.cell (p := ⟨w.heap.size + 1, 0, none⟩) (show w.heap.size + 1 < w1.heap.size by omega), hc _ _ (by simp)]
        simp [go_sem])
    clear hb1 hb2 hc hf
    go_loopw [9, 10] (fun e i wr => ∃ (q : Nat) (E : Int), q ≤ L.length ∧ i = .int .i64 q ∧ e = .int .i64 E ∧ Hid (E = firstE (E0 :: (L.take q).map chkT)) ∧ Below wB.heap.size wB wr) (fun _ i _ => L.length - (intOf i).toNat)
    case atStart => exact ⟨0, _, Nat.zero_le _, rfl, rfl, by show _ = _; rw [hE]; simp [firstE], Below.refl _ _⟩
    case round =>
      clear hE
      obtain ⟨q, E, hq, rfl, rfl, hF, hbr⟩ := hrel
      by_cases hgo : q < L.length ∧ E = 0
      · obtain ⟨hlt, hE⟩ := hgo
        subst hE
        obtain ⟨p, hp⟩ : ∃ p, L[q]? = some p := ⟨L[q], by simp [hlt]⟩
        have HS : Hid (chkP p.a p.g p.s p.m p.z = firstE (E0 :: (L.take (q + 1)).map chkT)) := by
          show _ = _
          rw [List.take_add_one, hp, Option.toList_some, List.map_append, List.map_singleton, ← List.cons_append, firstE_snoc, if_pos hF.out.symm]
          rfl
        obtain ⟨A, rfl, c0, c1, c2, c3, c4⟩ := ((HL.out.below HW.out).below hbr) q p hp
        clear hp
        go_wp2_with fail
        refine (checkTap_any _ _ _ _ _ _).mono ?_
        rintro e w3 ⟨rfl, hb3⟩
        have hbr3 := hbr.trans (hb3.mono hbr.size)
        clear hbr hb3
        go_wp2_with fail
        exact ⟨⟨q + 1, _, by omega, by simp, rfl, HS, hbr3⟩, by simp [intOf]; omega⟩
      · have hE1 := firstE_take E0 L chkT q E hF.out hgo
        have hx : (¬ q < L.length) ∨ (q < L.length ∧ (E == 0) = false) := by
          by_cases h : q < L.length
          · exact Or.inr ⟨h, by simpa using fun h' => hgo ⟨h, h'⟩⟩
          · exact Or.inl h
        clear hgo hF
        obtain ⟨b0, b1, b2⟩ := HB.out
        have d0 : wr.cell? ⟨w.heap.size, 0, none⟩ = some (.int .i64 i) := by rw [hbr.cell (p := ⟨w.heap.size, 0, none⟩) (show w.heap.size < wB.heap.size by omega)]; exact b0
        have d1 : wr.cell? ⟨w.heap.size + 1, 0, none⟩ = some (.int .i64 a) := by rw [hbr.cell (p := ⟨w.heap.size + 1, 0, none⟩) (show w.heap.size + 1 < wB.heap.size by omega)]; exact b1
        clear b0 b1
        generalize hG : firstE (E0 :: L.map chkT ++ [misT i ⟨a, g, s, m, zone⟩]) = G
        have hpick : ((E == 0) = true ∧ (a != i) = true ∧ G = 4) ∨ ((E == 0) = true ∧ (a != i) = false ∧ G = E) ∨ ((E == 0) = false ∧ G = E) := by
          rw [firstE_snoc, ← hE1] at hG
          by_cases h : E = 0
          · by_cases h' : a = i
            · simp [h, h', misT] at hG
              simp [h, h', ← hG]
            · simp [h, h', misT] at hG
              simp [h, h', ← hG]
          · simp [h] at hG
            simp [h, ← hG]
        have HG := hide hG
        clear hG hE1
        have HX := hide (show Below w.heap.size w wr from HW.out.trans (hbr.mono HW.out.size))
        clear hbr
        generalize wr = wq at *
        rcases hx with h1 | ⟨h1, h2⟩ <;> rcases hpick with ⟨h3, h4, rfl⟩ | ⟨h3, h4, rfl⟩ | ⟨h3, rfl⟩
        all_goals first | (exfalso; simp_all; done) | skip
        all_goals
          go_wp2_with fail
          go_loopw [9, 11] (fun e j ws => ∃ (n : Nat) (F : Int), n ≤ L.length ∧ j = .int .i64 n ∧ e = .int .i64 F ∧ Hid (F = firstE ((E0 :: L.map chkT ++ [misT i ⟨a, g, s, m, zone⟩]) ++ (L.take n).map (misT i))) ∧ Below wq.heap.size wq ws) (fun _ j _ => L.length - (intOf j).toNat)
          case atStart => exact ⟨0, _, Nat.zero_le _, rfl, rfl, by show _ = _; rw [List.take_zero, List.map_nil, List.append_nil, HG.out], Below.refl _ _⟩
          case round =>
            obtain ⟨n, F, hn, rfl, rfl, hFF, hbs⟩ := hrel
            have hs1 := World.block_lt_of_cell? wq ⟨w.heap.size, 0, none⟩ d0
            have x0 : wr.cell? ⟨w.heap.size, 0, none⟩ = some (.int .i64 i) := by rw [hbs.cell (p := ⟨w.heap.size, 0, none⟩) hs1]; exact d0
            have HBB := hide (HX.out.trans (hbs.mono HX.out.size))
            by_cases hgo : n < L.length ∧ F = 0
            · obtain ⟨hlt, hE⟩ := hgo
              subst hE
              obtain ⟨p, hp⟩ : ∃ p, L[n]? = some p := ⟨L[n], by simp [hlt]⟩
              have HS : Hid (misT i p = firstE ((E0 :: L.map chkT ++ [misT i ⟨a, g, s, m, zone⟩]) ++ (L.take (n + 1)).map (misT i))) := by
                show _ = _
                rw [List.take_add_one, hp, Option.toList_some, List.map_append, List.map_singleton, ← List.append_assoc, firstE_snoc, if_pos hFF.out.symm]
              obtain ⟨A, rfl, c0, _, _, _, _⟩ := (HL.out.below HBB.out) n p hp
              clear hp
              have hpick : ((p.a != i) = true ∧ misT i p = 4) ∨ ((p.a != i) = false ∧ misT i p = 0) := by
                by_cases h : p.a = i <;> simp [h, misT]
              rcases hpick with ⟨hm, hm'⟩ | ⟨hm, hm'⟩
              all_goals
                rw [hm'] at HS
                clear hm'
                go_wp2
                go_region
                go_wp2_with fail
                exact ⟨⟨n + 1, _, by omega, by simp, rfl, HS, hbs.drew⟩, by simp [intOf]; omega⟩
            · have HE2 : Hid (F = R) := (firstE_take' _ L (misT i) n F hFF.out hgo).trans HR.out
              have hx : (¬ n < L.length) ∨ (n < L.length ∧ (F == 0) = false) := by
                by_cases h : n < L.length
                · exact Or.inr ⟨h, by simpa using fun h' => hgo ⟨h, h'⟩⟩
                · exact Or.inl h
              clear hgo hFF
              rcases hx with h5 | ⟨h5, h6⟩
              all_goals
                go_wp2_with fail
                go_ret
                exact ⟨by rw [← HE2.out]; rfl, HBB.out⟩
end Go.Proofs.Ytcakfmpckbmdeab
