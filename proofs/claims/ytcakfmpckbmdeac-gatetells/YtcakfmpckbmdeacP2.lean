/-
  What is looked for by a function literal: 'slices.IndexFunc', 'slices.ContainsFunc' of taps with the literal of 'wrong' (package rule).
-/
import Derived.Test.YtcakfmpckbmdeacP1
import Derived.Test.YtcakfmpckbmdeacR3
namespace Go.Proofs.Ytcakfmpckbmdeac
open Go.RowKit

theorem wrong1_any (a g s m z i : Int) (B : Nat) (w : World) (hc : w.cell? ⟨B, 0, none⟩ = some (.int .i64 i)) :
    Calls Try.prog 110 #[tp a g s m z, .pointer (some ⟨B, 0, none⟩)] w fun e w' => e = .returned (.bool (a != i)) ∧ Below w.heap.size w w' := by
  have hlt := World.block_lt_of_cell? w ⟨B, 0, none⟩ hc
  go_enter Try.func110, Try.ntmps110
  go_wp2_with fail
  go_ret
  exact ⟨rfl, (Below.refl _ _).alloc (Nat.le_refl _) _⟩

theorem indexW_any (i : Int) (B : Nat) (o : Option Addr) (cap : Nat) (L : List TP) (w : World) (hL : TapsAt w o L) (hlen : L.length ≤ 9223372036854775807) (hc : w.cell? ⟨B, 0, none⟩ = some (.int .i64 i)) :
    Calls Try.prog 103 #[.slice o L.length cap, .func (.func 110) #[] #[.pointer (some ⟨B, 0, none⟩)]] w fun e w' =>
      (∃ n : Int, e = .returned (.int .i64 n) ∧ decide (0 ≤ n) = L.any (fun p => p.a != i)) ∧ Below w.heap.size w w' := by
  have HL := hide hL
  clear hL
  have hlt := World.block_lt_of_cell? w ⟨B, 0, none⟩ hc
  go_enter Try.func103, Try.ntmps103
  go_wp2_with fail
  go_loopw [8] (fun j wr => ∃ (q : Nat), q ≤ L.length ∧ j = .int .i64 q ∧ Hid ((L.take q).any (fun p => p.a != i) = false) ∧ Below w.heap.size w wr) (fun j _ => L.length - (intOf j).toNat)
  case atStart => exact ⟨0, Nat.zero_le _, rfl, by show _ = _; simp, Below.refl _ _⟩
  case round =>
    obtain ⟨q, hq, rfl, hF, hbr⟩ := hrel
    have c' : wr.cell? ⟨B, 0, none⟩ = some (.int .i64 i) := by rw [hbr.cell (p := ⟨B, 0, none⟩) hlt]; exact hc
    by_cases hgo : q < L.length
    · obtain ⟨p, hp⟩ : ∃ p, L[q]? = some p := ⟨L[q], by simp [hgo]⟩
      have HS : Hid ((L.take (q + 1)).any (fun p => p.a != i) = (p.a != i)) := by
        show _ = _
        rw [List.take_add_one, hp, Option.toList_some, List.any_append, hF.out]
        simp
      obtain ⟨A, rfl, c0, c1, c2, c3, c4⟩ := (HL.out.below hbr) q p hp
      have HP := hide hp
      clear hp
      go_wp2_with fail
      refine (wrong1_any _ _ _ _ _ i B _ c').mono ?_
      rintro e w3 ⟨rfl, hb3⟩
      have hbr3 := hbr.trans (hb3.mono hbr.size)
      clear hbr hb3 c'
      cases hx : (p.a != i)
      · rw [hx] at HS
        go_wp2_with fail
        exact ⟨⟨q + 1, by omega, by simp, HS, hbr3⟩, by simp [intOf]; omega⟩
      · go_wp2_with fail
        go_ret
        refine ⟨⟨q, rfl, ?_⟩, hbr3⟩
        have hp := HP.out
        have : L.any (fun p => p.a != i) = true := by
          rw [List.any_eq_true]
          exact ⟨p, List.mem_of_getElem? hp, hx⟩
        simp [this]
    · go_wp2_with fail
      go_ret
      refine ⟨⟨-1, rfl, ?_⟩, hbr⟩
      have h1 := hF.out
      rw [List.take_of_length_le (by omega)] at h1
      simp [h1]

theorem containsW_any (i : Int) (B : Nat) (o : Option Addr) (cap : Nat) (L : List TP) (w : World) (hL : TapsAt w o L) (hlen : L.length ≤ 9223372036854775807) (hc : w.cell? ⟨B, 0, none⟩ = some (.int .i64 i)) :
    Calls Try.prog 87 #[.slice o L.length cap, .func (.func 110) #[] #[.pointer (some ⟨B, 0, none⟩)]] w fun e w' =>
      e = .returned (.bool (L.any (fun p => p.a != i))) ∧ Below w.heap.size w w' := by
  have HI := hide (indexW_any i B o cap L w hL hlen hc)
  clear hL hc
  go_enter Try.func87, Try.ntmps87
  go_wp2_with fail
  refine HI.out.mono ?_
  rintro e w' ⟨⟨n, rfl, hn⟩, hb⟩
  have HN := hide hn
  clear hn
  go_wp2_with fail
  go_ret
  exact ⟨by rw [← HN.out]; rfl, hb⟩

end Go.Proofs.Ytcakfmpckbmdeac
