/-
  'slices.Concat' of taps, tickets and integers.
-/
import Derived.Test.YtlnmheooicancaaK3
namespace Go.Proofs.Ytlnmheooicancaa
open Go.RowKit

/-- how many elements some pieces have together -/
def lenS {α : Type} (Ps : List (Option Addr × List α × Nat)) : Nat := (Ps.flatMap fun x => x.2.1).length

theorem lenS_take {α : Type} (Ps : List (Option Addr × List α × Nat)) (q : Nat) (o : Option Addr) (L : List α) (cap : Nat) (h : Ps[q]? = some (o, L, cap)) : lenS (Ps.take (q + 1)) = lenS (Ps.take q) + L.length := by
  rw [lenS, lenS, List.take_add_one, h]
  simp

theorem flat_take {α : Type} (Ps : List (Option Addr × List α × Nat)) (q : Nat) (o : Option Addr) (L : List α) (cap : Nat) (h : Ps[q]? = some (o, L, cap)) :
    ((Ps.take (q + 1)).flatMap fun x => x.2.1) = ((Ps.take q).flatMap fun x => x.2.1) ++ L := by
  rw [List.take_add_one, h]
  simp

theorem lenS_le {α : Type} (Ps : List (Option Addr × List α × Nat)) (q : Nat) : lenS (Ps.take q) ≤ lenS Ps := by
  have : Ps = Ps.take q ++ Ps.drop q := (List.take_append_drop q Ps).symm
  conv => rhs; rw [this]
  unfold lenS
  rw [List.flatMap_append, List.length_append]
  omega

/-- pieces that lie in memory -/
def PiecesP (w : World) (B : Addr) (Ps : List (Option Addr × List TP × Nat)) : Prop :=
  ∀ q o L cap, Ps[q]? = some (o, L, cap) → w.cell? (B.add q) = some (.slice o L.length cap) ∧ TapsAt w o L ∧ (o = none → cap = 0)

theorem PiecesP.below {w w' : World} {B : Addr} {Ps : List (Option Addr × List TP × Nat)} (h : PiecesP w B Ps) (hb : Below w.heap.size w w') : PiecesP w' B Ps :=
  fun q o L cap hq => have ⟨h1, h2, h3⟩ := h q o L cap hq; ⟨by rw [hb.cell (World.block_lt_of_cell? w _ h1)]; exact h1, h2.below hb, h3⟩

set_option maxHeartbeats 3200000 in
set_option maxRecDepth 100000 in
theorem concatP_any (Ps : List (Option Addr × List TP × Nat)) (B : Addr) (c : Nat) (w : World) (hP : PiecesP w B Ps) (hlen : Ps.length ≤ 3) (hsum : lenS Ps ≤ 100) :
    Calls Try.prog 37 #[.slice (some B) Ps.length c] w fun e w' => (∃ v, e = .returned v ∧ TapsV w' v (Ps.flatMap fun x => x.2.1) ∧ Fresh w.heap.size v) ∧ Below w.heap.size w w' := by
  obtain ⟨i0, hi, hz0, hz1, hz2⟩ := info_parts info32
  have HP := hide hP
  have HS := hide (fun q => lenS_le Ps q)
  clear hP
  go_enter Try.func37, Try.ntmps37
  go_wp2_with fail
  go_loopw [3, 11] (fun s j wr => ∃ (q : Nat), q ≤ Ps.length ∧ j = .int .i64 q ∧ s = .int .i64 (lenS (Ps.take q) : Int) ∧ wr = w) (fun _ j _ => Ps.length - (intOf j).toNat)
  case atStart => exact ⟨0, Nat.zero_le _, rfl, by simp [lenS], rfl⟩
  case round =>
    obtain ⟨q, hq, rfl, rfl, hw⟩ := hrel
    obtain rfl := hw.symm
    clear hw
    have hb1 := HS.out q
    by_cases hgo : q < Ps.length
    · obtain ⟨⟨o, L, cap⟩, hp⟩ : ∃ p, Ps[q]? = some p := ⟨Ps[q], by simp [hgo]⟩
      obtain ⟨c0, -, -⟩ := HP.out q o L cap hp
      have hb2 := HS.out (q + 1)
      have HL := hide (lenS_take Ps q o L cap hp)
      have hb3 : lenS (Ps.take q) + L.length ≤ 100 := by rw [← HL.out]; omega
      clear hp hb2
      generalize lenS (Ps.take q) = s at *
      go_wp2_with fail
      exact ⟨⟨q + 1, by omega, by simp, by rw [HL.out]; simp, by first | trivial | rfl⟩, by simp [intOf]; omega⟩
    · obtain rfl : q = Ps.length := by omega
      clear hgo
      generalize lenS (Ps.take Ps.length) = s at *
      have hs : s ≤ 100 := by omega
      go_wp2_with fail
      refine (growP_any s _ hs).mono ?_
      rintro e w1 ⟨⟨v, rfl, hown⟩, hbw⟩
      have HO := hide hown
      have HB := hide hbw
      have HP1 := hide (HP.out.below hbw)
      clear hown hbw
      go_wp2_with fail
      go_loopw [6, 27] (fun v j wr => ∃ (q : Nat), q ≤ Ps.length ∧ j = .int .i64 q ∧ wr.ownsRow w.heap.size 35 5 v (lenS (Ps.take q)) (cellsP ((Ps.take q).flatMap fun x => x.2.1)) ∧ Below w.heap.size w wr) (fun _ j _ => Ps.length - (intOf j).toNat)
      case atStart => exact ⟨0, Nat.zero_le _, rfl, HO.out, HB.out⟩
      case round =>
        obtain ⟨q, hq2, rfl, hown, hbr⟩ := hrel
        by_cases hgo : q < Ps.length
        · obtain ⟨⟨o, L, cap⟩, hp⟩ : ∃ p, Ps[q]? = some p := ⟨Ps[q], by simp [hgo]⟩
          obtain ⟨c0, hAt, hcap⟩ := (HP.out.below hbr) q o L cap hp
          have hb2 := HS.out (q + 1)
          have HL := hide (lenS_take Ps q o L cap hp)
          have hb3 : lenS (Ps.take q) + L.length ≤ 100 := by rw [← HL.out]; omega
          have HF := hide (flat_take Ps q o L cap hp)
          have hsz := hbr.size
          clear hp hb2
          generalize lenS (Ps.take q) = s2 at *
          generalize (Ps.take q).flatMap (fun x => x.2.1) = F at *
          cases o with
          | none =>
            have hL0 : L = [] := by
              cases L with
              | nil => rfl
              | cons x L => obtain ⟨b, hb, -⟩ := hAt 0 x rfl; cases hb
            have hc0 := hcap rfl
            subst hL0 hc0
            clear hAt hcap
            go_wp2_with (at_builtin; refine wpList_append_own_none rfl _ _ 22 rfl w.heap.size 35 i0 5 Try.underlying22 hi _ s2 _ rfl hown rfl ?_)
            exact ⟨⟨q + 1, by omega, by simp, by rw [HL.out, HF.out, List.append_nil]; exact hown, hbr⟩, by simp [intOf]; omega⟩
          | some A =>
            have HN := hide (taps_cells hAt)
            clear hAt hcap
            go_wp2_with (at_builtin; refine wpList_append_own _ rfl _ _ 22 rfl w.heap.size 35 i0 _ 5 40 Try.underlying22 hi hz0 hz1 hz2 rfl (by decide) _ s2 _ rfl hown A L.length cap (cellsP L) rfl (cellsP_len L) HN.out (oneP L) (by unfold maxLen; omega) (by omega) hsz ?_; intro v1 w2 hown1 hgrow1 _)
            exact ⟨⟨q + 1, by omega, by simp, by rw [HL.out, HF.out, cellsP_app]; exact hown1, hbr.grown hgrow1 hsz (fun k hk => (hown.lt k hk).1)⟩, by simp [intOf]; omega⟩
        · obtain rfl : q = Ps.length := by omega
          rw [List.take_length] at hown
          have HV := hide (And.intro (tapsV_own hown) (show Fresh w.heap.size _ from fun k hk => (hown.lt k hk).1))
          clear hown
          go_wp2_with fail
          go_ret
          exact ⟨⟨_, rfl, HV.out.1, HV.out.2⟩, hbr⟩

/-- pieces that lie in memory -/
def PiecesK (w : World) (B : Addr) (Ps : List (Option Addr × List TK × Nat)) : Prop :=
  ∀ q o L cap, Ps[q]? = some (o, L, cap) → w.cell? (B.add q) = some (.slice o L.length cap) ∧ TiksAt w o L ∧ (o = none → cap = 0)

theorem PiecesK.below {w w' : World} {B : Addr} {Ps : List (Option Addr × List TK × Nat)} (h : PiecesK w B Ps) (hb : Below w.heap.size w w') : PiecesK w' B Ps :=
  fun q o L cap hq => have ⟨h1, h2, h3⟩ := h q o L cap hq; ⟨by rw [hb.cell (World.block_lt_of_cell? w _ h1)]; exact h1, h2.below hb, h3⟩

/-- pieces that lie in memory -/
def PiecesV (w : World) (B : Addr) (Ps : List (Option Addr × List Int × Nat)) : Prop :=
  ∀ q o L cap, Ps[q]? = some (o, L, cap) → w.cell? (B.add q) = some (.slice o L.length cap) ∧ IntsAt w o L ∧ (o = none → cap = 0)

theorem PiecesV.below {w w' : World} {B : Addr} {Ps : List (Option Addr × List Int × Nat)} (h : PiecesV w B Ps) (hb : Below w.heap.size w w') : PiecesV w' B Ps :=
  fun q o L cap hq => have ⟨h1, h2, h3⟩ := h q o L cap hq; ⟨by rw [hb.cell (World.block_lt_of_cell? w _ h1)]; exact h1, h2.below hb, h3⟩

end Go.Proofs.Ytlnmheooicancaa
