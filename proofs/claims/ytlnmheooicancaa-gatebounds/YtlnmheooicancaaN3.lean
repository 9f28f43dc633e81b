/-
  'wrong', 'Check', 'unfit' (package denied): lists that are looked at one by one.
-/
import Derived.Test.YtlnmheooicancaaN1
namespace Go.Proofs.Ytlnmheooicancaa
open Go.RowKit

/-- a list, with where its ids lie -/
structure DD where
  v : Int
  L : List Int
  o : Option Addr
  c : Nat

/-- lists that lie in memory from an address on -/
def DensAt (w : World) (B : Addr) (Ds : List DD) : Prop := ∀ (q : Nat) (d : DD), Ds[q]? = some d →
  w.cell? (B.add (q * 2)) = some (.int .i64 d.v) ∧ w.cell? ⟨(B.add (q * 2)).block, (B.add (q * 2)).off + 1, none⟩ = some (.slice d.o d.L.length d.c) ∧ IntsAt w d.o d.L ∧ d.L.length ≤ 9223372036854775807

theorem DensAt.below {w w' : World} {B : Addr} {Ds : List DD} (h : DensAt w B Ds) (hb : Below w.heap.size w w') : DensAt w' B Ds :=
  fun q d hq => have ⟨h1, h2, h3, h4⟩ := h q d hq; ⟨by rw [hb.cell (World.block_lt_of_cell? w _ h1)]; exact h1, by rw [hb.cell (World.block_lt_of_cell? w _ h2)]; exact h2, h3.below hb, h4⟩

/-- what the first one that is not right has -/
def wrongE : List DD → Int
  | [] => 0
  | d :: r => if chkD d.v d.L = 0 then wrongE r else chkD d.v d.L

theorem wrongE_ways (d : DD) (r : List DD) : ((chkD d.v d.L != 0) = true ∧ wrongE (d :: r) = chkD d.v d.L) ∨ (chkD d.v d.L = 0 ∧ wrongE (d :: r) = wrongE r) := by
  rw [wrongE]
  by_cases h : chkD d.v d.L = 0
  · right; simp [h]
  · left; simp [h]

set_option maxHeartbeats 1600000 in
theorem denWrong_any (Ds : List DD) (B : Addr) (c : Nat) (w : World) (hD : DensAt w B Ds) (hlen : Ds.length ≤ 12) :
    Calls Try.prog 31 #[.slice (some B) Ds.length c] w fun e w' => e = .returned (.int .i64 (wrongE Ds)) ∧ Below w.heap.size w w' := by
  have HD := hide hD
  clear hD
  go_enter Try.func31, Try.ntmps31
  go_wp2_with fail
  go_loopw [8] (fun j wr => ∃ (q : Nat), q ≤ Ds.length ∧ j = .int .i64 q ∧ Hid (wrongE Ds = wrongE (Ds.drop q)) ∧ Hid (Below w.heap.size w wr)) (fun j _ => Ds.length - (intOf j).toNat)
  case atStart => exact ⟨0, Nat.zero_le _, rfl, by show _ = _; simp, Below.refl _ _⟩
  case round =>
    obtain ⟨q, hq, rfl, hE, HB⟩ := hrel
    by_cases hgo : q < Ds.length
    · obtain ⟨d, hd⟩ : ∃ d, Ds[q]? = some d := ⟨Ds[q], by simp [hgo]⟩
      obtain ⟨c0, c1, h2, h3⟩ := HD.out.below HB.out q d hd
      have HI := hide h2
      clear h2
      have hE' := hE.out
      rw [drop_cons hd] at hE'
      have hp := wrongE_ways d (Ds.drop (q + 1))
      rw [← hE'] at hp
      clear hE hE' hd
      go_wp2_with fail
      have hBa := HB.out.alloc HB.out.size (.cells #[.int .i64 d.v, .slice d.o d.L.length d.c] 25)
      refine (checkD_any d.v d.L d.o d.c _ (HI.out.below ((Below.refl wr.heap.size wr).alloc (Nat.le_refl _) _)) h3).mono ?_
      rintro e w1 ⟨rfl, hb⟩
      have HB1 := hide (hBa.trans (hb.mono hBa.size))
      clear hBa hb c0 c1 HI
      rcases hp with ⟨h5, h6⟩ | ⟨h5, h6⟩
      · have H6 := hide h6
        clear h6
        generalize chkD d.v d.L = E at *
        go_wp2_with fail
        go_ret
        exact ⟨by rw [H6.out]; rfl, HB1.out⟩
      · have H6 := hide h6
        clear h6
        rw [h5]
        clear h5
        go_wp2_with fail
        exact ⟨⟨q + 1, by omega, by simp, H6, HB1⟩, by simp [intOf]; omega⟩
    · have hE' := hE.out
      rw [List.drop_of_length_le (by omega)] at hE'
      have H6 := hide hE'
      clear hE hE'
      go_wp2_with fail
      go_ret
      exact ⟨by rw [H6.out]; rfl, HB.out⟩

theorem densAt_one (w : World) (v : Int) (L : List Int) (o : Option Addr) (c b : Nat) (T : TypeId) (hb : w.heap[b]? = some (.cells #[.int .i64 v, .slice o L.length c] T)) (hL : IntsAt w o L) (hl : L.length ≤ 9223372036854775807) :
    DensAt w ⟨b, 0, none⟩ [⟨v, L, o, c⟩] := by
  intro q d hq
  match q, hq with
  | 0, hq =>
    simp at hq
    subst hq
    have c0 := cell_of_row w b 0 _ _ _ hb
    have c1 := cell_of_row w b 1 _ _ _ hb
    simp at c0 c1
    exact ⟨by simpa [Addr.add] using c0, by simpa [Addr.add] using c1, hL, hl⟩
  | q + 1, hq => simp at hq

theorem densAt_two (w : World) (v v' : Int) (L L' : List Int) (o o' : Option Addr) (c c' b : Nat) (T : TypeId) (hb : w.heap[b]? = some (.cells #[.int .i64 v, .slice o L.length c, .int .i64 v', .slice o' L'.length c'] T)) (hL : IntsAt w o L) (hl : L.length ≤ 9223372036854775807)
    (hL' : IntsAt w o' L') (hl' : L'.length ≤ 9223372036854775807) : DensAt w ⟨b, 0, none⟩ [⟨v, L, o, c⟩, ⟨v', L', o', c'⟩] := by
  intro q d hq
  have c0 := cell_of_row w b 0 _ _ _ hb
  have c1 := cell_of_row w b 1 _ _ _ hb
  have c2 := cell_of_row w b 2 _ _ _ hb
  have c3 := cell_of_row w b 3 _ _ _ hb
  simp at c0 c1 c2 c3
  match q, hq with
  | 0, hq =>
    simp at hq
    subst hq
    exact ⟨by simpa [Addr.add] using c0, by simpa [Addr.add] using c1, hL, hl⟩
  | 1, hq =>
    simp at hq
    subst hq
    exact ⟨by simpa [Addr.add] using c2, by simpa [Addr.add] using c3, hL', hl'⟩
  | q + 2, hq => simp at hq

theorem wrongE_one (d : DD) : wrongE [d] = chkD d.v d.L := by
  simp only [wrongE]
  split
  · rename_i h; exact h.symm
  · rfl

theorem denWrong1_any (v : Int) (L : List Int) (o : Option Addr) (c b : Nat) (T : TypeId) (w : World) (hb : w.heap[b]? = some (.cells #[.int .i64 v, .slice o L.length c] T)) (hL : IntsAt w o L) (hlen : L.length ≤ 9223372036854775807) :
    Calls Try.prog 31 #[.slice (some ⟨b, 0, none⟩) 1 1] w fun e w' => e = .returned (.int .i64 (chkD v L)) ∧ Below w.heap.size w w' := by
  have h := denWrong_any [⟨v, L, o, c⟩] ⟨b, 0, none⟩ 1 w (densAt_one w v L o c b T hb hL hlen) (by simp)
  rw [wrongE_one] at h
  exact h

theorem denCheck_any (v : Int) (L : List Int) (o : Option Addr) (c : Nat) (w : World) (hL : IntsAt w o L) (hlen : L.length ≤ 9223372036854775807) :
    Calls Try.prog 14 #[dn v o L.length c] w fun e w' => e = .returned (.int .i64 (chkD v L)) ∧ Below w.heap.size w w' := by
  have HB := hide (((Blks.nil w).more (.cells #[.int .i64 v, .slice o L.length c] 25) (by simp)).more (.cells #[.int .i64 v, .slice o L.length c] 25) (by simp))
  have HL := hide hL
  clear hL
  go_enter Try.func14, Try.ntmps14
  go_wp2_with fail
  refine (denWrong1_any v L o c _ _ _ (HB.out.1 1 _ rfl) (HL.out.below HB.out.2.2) hlen).mono ?_
  rintro e w1 ⟨rfl, hb⟩
  have HB1 := hide (HB.out.on hb)
  clear hb HB
  go_wp2_with fail
  go_ret
  exact ⟨rfl, HB1.out.2.2⟩

/-- why a list can't be asked for an id -/
def unfD (v : Int) (L : List Int) (id : Int) : Int := if chkD v L = 0 then (if wi id 1 9999 = true then 0 else 3) else chkD v L

theorem unfD_ways (v : Int) (L : List Int) (id : Int) : ((chkD v L != 0) = true ∧ unfD v L id = chkD v L) ∨ (chkD v L = 0 ∧ wi id 1 9999 = false ∧ unfD v L id = 3) ∨ (chkD v L = 0 ∧ wi id 1 9999 = true ∧ unfD v L id = 0) := by
  rw [unfD]
  by_cases h : chkD v L = 0
  · right
    cases wi id 1 9999 <;> simp [h]
  · left; simp [h]

set_option maxHeartbeats 1600000 in
theorem denUnfit_any (v : Int) (L : List Int) (o : Option Addr) (c : Nat) (id : Int) (w : World) (hL : IntsAt w o L) (hlen : L.length ≤ 9223372036854775807) :
    Calls Try.prog 43 #[dn v o L.length c, .int .i64 id] w fun e w' => e = .returned (.int .i64 (unfD v L id)) ∧ Below w.heap.size w w' := by
  have HB := hide (((Blks.nil w).more (.cells #[.int .i64 v, .slice o L.length c] 25) (by simp)).more (.cells #[.int .i64 v, .slice o L.length c] 25) (by simp))
  have HL := hide hL
  clear hL
  have hp := unfD_ways v L id
  go_enter Try.func43, Try.ntmps43
  go_wp2_with fail
  refine (denWrong1_any v L o c _ _ _ (HB.out.1 1 _ rfl) (HL.out.below HB.out.2.2) hlen).mono ?_
  rintro e w1 ⟨rfl, hb⟩
  have HB1 := hide (HB.out.on hb)
  clear hb HB
  rcases hp with ⟨h1, h2⟩ | ⟨h1, h2, h3⟩ | ⟨h1, h2, h3⟩
  · have H2 := hide h2
    clear h2
    generalize chkD v L = E at *
    go_wp2_with fail
    go_ret
    exact ⟨by rw [H2.out]; rfl, HB1.out.2.2⟩
  all_goals
    have H3 := hide h3
    rw [h1]
    clear h1 h3
    go_wp2_with (go_at_call 48; refine (isId_any _ _).mono ?_; rintro e w' ⟨rfl, rfl⟩; rw [h2])
    go_ret
    exact ⟨by rw [H3.out]; rfl, HB1.out.2.2⟩
end Go.Proofs.Ytlnmheooicancaa
