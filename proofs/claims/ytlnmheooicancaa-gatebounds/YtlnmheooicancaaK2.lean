/-
  'slices.Clone' of taps, tickets and integers.
-/
import Derived.Test.YtlnmheooicancaaK1
import Derived.Laws.AppendOwnNone
import Derived.Lib.SliceRun
namespace Go.Proofs.Ytlnmheooicancaa
open Go.RowKit

/-- a slice that lies in a block from B on, if it lies in one -/
def Fresh (B : Nat) (v : Value) : Prop := ∀ k, v.ownBlock = some k → B ≤ k

set_option maxHeartbeats 1600000 in
theorem cloneP_any (L : List TP) (o : Option Addr) (cap : Nat) (w : World) (hL : TapsAt w o L) (hlen : L.length ≤ 60) :
    Calls Try.prog 25 #[.slice o L.length cap] w fun e w' => (∃ v, e = .returned v ∧ TapsV w' v L ∧ Fresh w.heap.size v) ∧ Below w.heap.size w w' := by
  obtain ⟨i0, hi, hz0, hz1, hz2⟩ := info_parts info32
  have q : ∀ (w : World) (a : Option Addr) (n c n' c' : Nat), (binOp .eql 22 (.slice a n c) (.slice none n' c')).run Try.prog w = .ok (.bool a.isNone) w := fun w a n c n' c' => Lib.run_eql_slice_nil w _ _ a n c n' c' Try.underlying22
  cases o with
  | none =>
    have hL0 : L = [] := by
      cases L with
      | nil => rfl
      | cons x L => obtain ⟨b, hb, -⟩ := hL 0 x rfl; cases hb
    subst hL0
    go_enter Try.func25, Try.ntmps25
    go_wp2
    go_ret
    exact ⟨⟨_, rfl, ⟨none, 0, rfl, fun i p hi => by simp at hi, by simp, fun _ => rfl⟩, fun k hk => by simp [Value.ownBlock] at hk⟩, Below.refl _ _⟩
  | some A =>
    have HN := hide (taps_cells (hL.below ((Below.refl w.heap.size w).alloc (Nat.le_refl _) (.cells #[] 35))))
    have HO := hide (World.ownsRow_made (base := w.heap.size) (e := 35) (size := 5) w #[] 0 (Nat.le_refl _) (by decide) rfl)
    clear hL
    go_enter Try.func25, Try.ntmps25
    go_wp2_with (at_builtin; refine wpList_append_own _ rfl _ _ 22 rfl w.heap.size 35 i0 _ 5 40 Try.underlying22 hi hz0 hz1 hz2 rfl (by decide) _ 0 _ rfl HO.out A L.length cap (cellsP L) rfl (cellsP_len L) HN.out (oneP L) (by unfold maxLen; omega) (by omega) (by simp) ?_; intro v1 w1 hown1 hgrow1 _)
    go_ret
    exact ⟨⟨_, rfl, tapsV_own hown1, fun k hk => (hown1.lt k hk).1⟩, ((Below.refl w.heap.size w).alloc (Nat.le_refl _) _).grown hgrow1 (by simp) (fun k hk => (HO.out.lt k hk).1)⟩

set_option maxHeartbeats 1600000 in
theorem cloneV_any (L : List Int) (o : Option Addr) (cap : Nat) (w : World) (hL : IntsAt w o L) (hlen : L.length ≤ 60) :
    Calls Try.prog 38 #[.slice o L.length cap] w fun e w' => (∃ v, e = .returned v ∧ IntsV w' v L ∧ Fresh w.heap.size v) ∧ Below w.heap.size w w' := by
  obtain ⟨i0, hi, hz0, hz1, hz2⟩ := info_parts info3
  have q : ∀ (w : World) (a : Option Addr) (n c n' c' : Nat), (binOp .eql 23 (.slice a n c) (.slice none n' c')).run Try.prog w = .ok (.bool a.isNone) w := fun w a n c n' c' => Lib.run_eql_slice_nil w _ _ a n c n' c' Try.underlying23
  cases o with
  | none =>
    have hL0 : L = [] := by
      cases L with
      | nil => rfl
      | cons x L => obtain ⟨b, hb, -⟩ := hL 0 x rfl; cases hb
    subst hL0
    go_enter Try.func38, Try.ntmps38
    go_wp2
    go_ret
    exact ⟨⟨_, rfl, ⟨none, 0, rfl, fun i p hi => by simp at hi, by simp, fun _ => rfl⟩, fun k hk => by simp [Value.ownBlock] at hk⟩, Below.refl _ _⟩
  | some A =>
    have HN := hide (ints_cells (hL.below ((Below.refl w.heap.size w).alloc (Nat.le_refl _) (.cells #[] 3))))
    have HO := hide (World.ownsRow_made (base := w.heap.size) (e := 3) (size := 1) w #[] 0 (Nat.le_refl _) (by decide) rfl)
    clear hL
    go_enter Try.func38, Try.ntmps38
    go_wp2_with (at_builtin; refine wpList_append_own _ rfl _ _ 23 rfl w.heap.size 3 i0 _ 1 8 Try.underlying23 hi hz0 hz1 hz2 rfl (by decide) _ 0 _ rfl HO.out A L.length cap (cellsV L) rfl (cellsV_len L) HN.out (oneV L) (by unfold maxLen; omega) (by omega) (by simp) ?_; intro v1 w1 hown1 hgrow1 _)
    go_ret
    exact ⟨⟨_, rfl, intsV_own hown1, fun k hk => (hown1.lt k hk).1⟩, ((Below.refl w.heap.size w).alloc (Nat.le_refl _) _).grown hgrow1 (by simp) (fun k hk => (HO.out.lt k hk).1)⟩

end Go.Proofs.Ytlnmheooicancaa
