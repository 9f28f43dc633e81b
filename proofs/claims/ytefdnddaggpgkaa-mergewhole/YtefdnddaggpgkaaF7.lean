/-
  'Order' (package merge).
-/
import Derived.Test.YtefdnddaggpgkaaF4
import Derived.Test.YtefdnddaggpgkaaF6
import Derived.Shelf.SlSortCmp.NoneTotal
namespace Go.Proofs.Ytefdnddaggpgkaa
open Go.RowKit

theorem dupFrom_false (A L : List TP) : dupFrom A L = false ↔ (DistP L ∧ ∀ a ∈ A, ∀ p ∈ L, ¬ (a.g = p.g ∧ a.s = p.s)) := by
  induction L generalizing A with
  | nil => simp [dupFrom, DistP]
  | cons p L ih =>
    rw [dropFrom_cons, Bool.or_eq_false_iff, ih]
    have h1 : twiceT A p = false ↔ ∀ a ∈ A, ¬ (a.g = p.g ∧ a.s = p.s) := by
      rw [twiceT, List.any_eq_false]
      simp
    rw [h1]
    constructor
    · rintro ⟨h2, h3, h4⟩
      refine ⟨List.pairwise_cons.2 ⟨fun q hq => h4 p (by simp) q hq, h3⟩, fun a ha q hq => ?_⟩
      rcases List.mem_cons.1 hq with rfl | hq
      · exact h2 a ha
      · exact h4 a (by simp [ha]) q hq
    · rintro ⟨h2, h3⟩
      obtain ⟨h4, h5⟩ := List.pairwise_cons.1 h2
      refine ⟨fun a ha => h3 a ha p (by simp), h5, fun a ha q hq => ?_⟩
      rcases List.mem_append.1 ha with ha | ha
      · exact h3 a ha q (by simp [hq])
      · obtain rfl : a = p := by simpa using ha
        exact h4 q hq

theorem dupB_false (L : List TP) : dupB L = false ↔ DistP L := by
  rw [dupB, dupFrom_false]
  simp

theorem firstE_map_zero {L : List TP} : firstE (L.map chkT) = 0 ↔ ∀ p ∈ L, chkT p = 0 := by
  induction L with
  | nil => simp [firstE]
  | cons p L ih =>
    rw [List.map_cons, firstE]
    by_cases h : chkT p = 0
    · rw [if_pos h, ih]
      simp [h]
    · rw [if_neg h]
      simp [h]

theorem chkT_range {p : TP} (h : chkT p = 0) : (0 ≤ p.g ∧ p.g ≤ 2) ∧ (1 ≤ p.s ∧ p.s ≤ 99) := by
  rw [chkT, chkP] at h
  by_cases h1 : (wi p.a 1 9999 && wi p.g 0 2 && wi p.s 1 99 && wi p.m 0 9999) = false
  · rw [if_pos h1] at h; omega
  · simp only [Bool.not_eq_false, Bool.and_eq_true, wi_iff] at h1
    exact ⟨h1.1.1.2, h1.1.2⟩

/-- what Order says, and gives -/
def ordE (L : List TP) : Int := if 72 < L.length then 2 else if firstE (L.map chkT) = 0 then (if dupB L = true then 6 else 0) else firstE (L.map chkT)
def ordR (L : List TP) : List TP := if ordE L = 0 then srt L else []

theorem ordE_ways (L : List TP) : (72 < L.length ∧ ordE L = 2 ∧ ordR L = []) ∨ (L.length ≤ 72 ∧ (firstE (L.map chkT) != 0) = true ∧ ordE L = firstE (L.map chkT) ∧ ordR L = []) ∨ (L.length ≤ 72 ∧ firstE (L.map chkT) = 0 ∧ dupB L = true ∧ ordE L = 6 ∧ ordR L = []) ∨
    (L.length ≤ 72 ∧ firstE (L.map chkT) = 0 ∧ dupB L = false ∧ ordE L = 0 ∧ ordR L = srt L) := by
  by_cases h1 : 72 < L.length
  · have e : ordE L = 2 := by rw [ordE, if_pos h1]
    left; exact ⟨h1, e, by rw [ordR, e]; rfl⟩
  · right
    by_cases h2 : firstE (L.map chkT) = 0
    · right
      cases h3 : dupB L
      · have e : ordE L = 0 := by rw [ordE, if_neg h1, if_pos h2, h3]; rfl
        right; exact ⟨by omega, h2, rfl, e, by rw [ordR, e]; rfl⟩
      · have e : ordE L = 6 := by rw [ordE, if_neg h1, if_pos h2, h3]; rfl
        left; exact ⟨by omega, h2, rfl, e, by rw [ordR, e]; rfl⟩
    · have e : ordE L = firstE (L.map chkT) := by rw [ordE, if_neg h1, if_neg h2]
      left; exact ⟨by omega, by simpa using h2, e, by rw [ordR, e, if_neg h2]⟩

theorem ordE_right {L : List TP} (h : ordE L = 0) : L.length ≤ 72 ∧ (∀ p ∈ L, chkT p = 0) ∧ DistP L := by
  rcases ordE_ways L with ⟨-, h2, -⟩ | ⟨-, h1, h2, -⟩ | ⟨-, -, -, h2, -⟩ | ⟨h1, h2, h3, -⟩
  · omega
  · rw [h2] at h
    rw [h] at h1
    simp at h1
  · omega
  · exact ⟨h1, firstE_map_zero.1 h2, (dupB_false L).1 h3⟩

theorem ordE_zero {L : List TP} (h1 : L.length ≤ 72) (h2 : ∀ p ∈ L, chkT p = 0) (h3 : DistP L) : ordE L = 0 := by
  rw [ordE, if_neg (by omega), if_pos (firstE_map_zero.2 h2), (dupB_false L).2 h3]
  rfl

set_option maxHeartbeats 1600000 in
theorem clonePO_any (L : List TP) (A : Addr) (cap : Nat) (w : World) (hL : TapsAt w (some A) L) (hlen : L.length ≤ 72) :
    Calls Try.prog 42 #[.slice (some A) L.length cap] w fun e w' => (∃ g c, e = .returned (.slice (some ⟨g, 0, none⟩) L.length c) ∧ w.heap.size ≤ g ∧ L.length ≤ c ∧ w'.ownsRow w.heap.size 28 5 (.slice (some ⟨g, 0, none⟩) L.length c) L.length (cellsP L)) ∧ Below w.heap.size w w' := by
  obtain ⟨i0, hi, hz0, hz1, hz2⟩ := info_parts info32
  have q : ∀ (w : World) (a : Option Addr) (n c n' c' : Nat), (binOp .eql 23 (.slice a n c) (.slice none n' c')).run Try.prog w = .ok (.bool a.isNone) w := fun w a n c n' c' => Lib.run_eql_slice_nil w _ _ a n c n' c' Try.underlying23
  have HN := hide (taps_cells (hL.below ((Below.refl w.heap.size w).alloc (Nat.le_refl _) (.cells #[] 28))))
  have HO := hide (World.ownsRow_made (base := w.heap.size) (e := 28) (size := 5) w #[] 0 (Nat.le_refl _) (by decide) rfl)
  clear hL
  go_enter Try.func42, Try.ntmps42
  go_wp2_with (at_builtin; refine wpList_append_own _ rfl _ _ 23 rfl w.heap.size 28 i0 _ 5 40 Try.underlying23 hi hz0 hz1 hz2 rfl (by decide) _ 0 _ rfl HO.out A L.length cap (cellsP L) rfl (cellsP_len L) HN.out (oneP L) (by unfold maxLen; omega) (by omega) (by simp) ?_; intro v1 w1 hown1 hgrow1 hnil)
  go_ret
  refine ⟨?_, ((Below.refl w.heap.size w).alloc (Nat.le_refl _) _).grown hgrow1 (by simp) (fun k hk => (HO.out.lt k hk).1)⟩
  have hn : 0 + L.length = L.length := by omega
  rw [hn] at hown1
  rcases hown1.2 with ⟨h0, -⟩ | ⟨g, c, cur, rfl, hg, -, hc, -⟩
  · have := (hnil.1 h0).1
    simp [Act.eval] at this
  · exact ⟨g, c, rfl, hg, hc, hown1⟩

theorem tapsV_nilO (w : World) : TapsV w (.slice none 0 0) [] := ⟨none, 0, rfl, fun i p h => by simp at h, by simp, fun _ => rfl⟩
theorem fresh_nilO (B : Nat) : Fresh B (.slice none 0 0) := fun k hk => by simp [Value.ownBlock] at hk

theorem cloneNil (w : World) : Calls Try.prog 42 #[.slice none 0 0] w fun e w' => e = .returned (.slice none 0 0) ∧ w' = w := by
  have q : ∀ (w : World) (a : Option Addr) (n c n' c' : Nat), (binOp .eql 23 (.slice a n c) (.slice none n' c')).run Try.prog w = .ok (.bool a.isNone) w := fun w a n c n' c' => Lib.run_eql_slice_nil w _ _ a n c n' c' Try.underlying23
  go_enter Try.func42, Try.ntmps42
  go_wp2
  go_ret
  exact ⟨rfl, rfl⟩

theorem sortNil (w : World) : Calls Try.prog 43 #[.slice none 0 0, .func (.func 44) #[] #[]] w fun e w' => e = .returned (.tuple #[]) ∧ w' = w := by
  have h := AnyF.slices_SortFunc_none sortLay none 0 (.func (.func 44) #[] #[]) w
  change Calls Try.prog 43 _ _ _ at h
  exact h

set_option maxHeartbeats 3200000 in
theorem order_any (o : Option Addr) (cap : Nat) (L : List TP) (w : World) (hL : TapsAt w o L) (hlen : L.length ≤ 9223372036854775807) (hnone : o = none → cap = 0) :
    Calls Try.prog 13 #[.slice o L.length cap] w fun e w' => (∃ o' n c', e = .returned (.tuple #[.slice o' n c', .int .i64 (ordE L)]) ∧ TapsV w' (.slice o' n c') (ordR L) ∧ Fresh w.heap.size (.slice o' n c')) ∧ Below w.heap.size w w' := by
  have HL := hide hL
  have HC := hide (fun W (h : TapsAt W o L) => eachC_any o cap L W h hlen)
  rcases ordE_ways L with ⟨h1, h2, h3⟩ | ⟨h1, h4, h2, h3⟩ | ⟨h1, h4, h5, h2, h3⟩ | ⟨h1, h4, h5, h2, h3⟩
  · rw [h2, h3]
    have h1' : (72 : Int) < (L.length : Int) := by omega
    clear hL h1 h2 h3
    go_enter Try.func13, Try.ntmps13
    go_wp2_with fail
    go_ret2
    exact ⟨⟨_, _, _, rfl, tapsV_nilO _, fresh_nilO _⟩, Below.refl _ _⟩
  · rw [h2, h3]
    have h1' : ¬ (72 : Int) < (L.length : Int) := by omega
    clear hL h1 h2 h3
    generalize firstE (L.map chkT) = E at *
    go_enter Try.func13, Try.ntmps13
    go_wp2_with fail
    refine (HC.out _ HL.out).mono ?_
    rintro e w1 ⟨rfl, hb⟩
    have HB := hide hb
    clear hb
    go_wp2_with fail
    go_ret2
    exact ⟨⟨_, _, _, rfl, tapsV_nilO _, fresh_nilO _⟩, HB.out⟩
  · have HT := hide (fun W (h : TapsAt W o L) => twice_any o cap L W h h1 (fun p hp => chkT_range (firstE_map_zero.1 h4 p hp)))
    rw [h5] at HT
    rw [h4] at HC
    rw [h2, h3]
    have h1' : ¬ (72 : Int) < (L.length : Int) := by omega
    clear hL h1 h2 h3 h4 h5
    go_enter Try.func13, Try.ntmps13
    go_wp2_with fail
    refine (HC.out _ HL.out).mono ?_
    rintro e w1 ⟨rfl, hb⟩
    have HB := hide hb
    have HL1 := hide (HL.out.below hb)
    clear hb
    go_wp2_with fail
    refine (HT.out _ HL1.out).mono ?_
    rintro e w2 ⟨rfl, hb⟩
    have HB2 := hide (HB.out.trans (hb.mono HB.out.size))
    clear hb
    go_wp2_with fail
    go_ret2
    exact ⟨⟨_, _, _, rfl, tapsV_nilO _, fresh_nilO _⟩, HB2.out⟩
  · have HT := hide (fun W (h : TapsAt W o L) => twice_any o cap L W h h1 (fun p hp => chkT_range (firstE_map_zero.1 h4 p hp)))
    rw [h5] at HT
    rw [h4] at HC
    rw [h2]
    have hd := (dupB_false L).1 h5
    have h1' : ¬ (72 : Int) < (L.length : Int) := by omega
    clear h2 h4 h5
    cases o with
    | none =>
      have hL0 : L = [] := by
        cases L with
        | nil => rfl
        | cons x L => obtain ⟨b, hb, -⟩ := hL 0 x rfl; cases hb
      subst hL0
      obtain rfl := hnone rfl
      have hs0 : srt [] = [] := List.eq_nil_of_length_eq_zero (srt_len [])
      rw [h3, hs0]
      clear hL h3 hd hs0 h1
      go_enter Try.func13, Try.ntmps13
      go_wp2_with fail
      refine (HC.out _ HL.out).mono ?_
      rintro e w1 ⟨rfl, hb⟩
      have HB := hide hb
      have HL1 := hide (HL.out.below hb)
      clear hb
      go_wp2_with fail
      refine (HT.out _ HL1.out).mono ?_
      rintro e w2 ⟨rfl, hb⟩
      have HL2 := hide (HL1.out.below hb)
      have HB2 := hide (HB.out.trans (hb.mono HB.out.size))
      clear hb
      go_wp2_with fail
      refine (cloneNil w2).mono ?_
      rintro e w3 ⟨rfl, hw3⟩
      obtain rfl := hw3.symm
      go_wp2_with fail
      refine (sortNil w2).mono ?_
      rintro e w3 ⟨rfl, hw3⟩
      obtain rfl := hw3.symm
      go_wp2_with fail
      go_ret2
      exact ⟨⟨_, _, _, rfl, tapsV_nilO _, fresh_nilO _⟩, HB2.out⟩
    | some A =>
      have HK := hide (fun W (h : TapsAt W (some A) L) => clonePO_any L A cap W h h1)
      have HD := hide hd
      have H3 := hide h3
      have hlL : L.length ≤ 100 := by omega
      clear hL hd h1 h3
      generalize ordR L = R at *
      go_enter Try.func13, Try.ntmps13
      go_wp2_with fail
      refine (HC.out _ HL.out).mono ?_
      rintro e w1 ⟨rfl, hb⟩
      have HB := hide hb
      have HL1 := hide (HL.out.below hb)
      clear hb
      go_wp2_with fail
      refine (HT.out _ HL1.out).mono ?_
      rintro e w2 ⟨rfl, hb⟩
      have HL2 := hide (HL1.out.below hb)
      have HB2 := hide (HB.out.trans (hb.mono HB.out.size))
      clear hb
      go_wp2_with fail
      refine (HK.out _ HL2.out).mono ?_
      rintro e w3 ⟨⟨g, c, rfl, hg, hc, hown⟩, hb⟩
      have HO := hide hown
      have HB3 := hide (HB2.out.trans (hb.mono HB2.out.size))
      have HG := hide (show w.heap.size ≤ g from Nat.le_trans HB2.out.size hg)
      have HCc := hide hc
      have HB23 := hide HB2.out.size
      clear hown hb hg hc
      go_wp2_with fail
      refine (sortP_any L w2.heap.size g c w3 HO.out hlL).mono ?_
      rintro e w4 ⟨rfl, ⟨M, hp, hs, hM⟩, hb4⟩
      have hord : Ord M := (hs.and (HD.out.perm hp.symm)).imp (fun ⟨h1, h2⟩ => befP_total h2 h1)
      have hMe : M = R := (srt_eq hord hp HD.out).trans H3.out.symm
      have hMl := hp.length_eq
      subst hMe
      have HM := hide hM
      have HB4 := hide (HB3.out.trans (hb4.mono HB23.out))
      have HLn := hide hMl
      clear hp hs hM hb4 hord hMl
      go_wp2_with fail
      go_ret2
      refine ⟨⟨_, _, _, rfl, ⟨some ⟨g, 0, none⟩, c, ?_, HM.out, ?_, fun h => by cases h⟩, fun k hk => by cases hk; exact HG.out⟩, HB4.out⟩
      · rw [HLn.out]
      · rw [HLn.out]; exact HCc.out
end Go.Proofs.Ytefdnddaggpgkaa
