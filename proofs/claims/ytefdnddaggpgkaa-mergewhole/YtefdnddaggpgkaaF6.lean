/-
  slices.SortFunc of taps, in our words.
-/
import Derived.Test.YtefdnddaggpgkaaF2
import Derived.Test.YtefdnddaggpgkaaF5
import Derived.Test.YtefdnddaggpgkaaK2
import Derived.Laws.OwnMore
namespace Go.Proofs.Ytefdnddaggpgkaa
open Go.RowKit
open Go.Sort (grow SWO PermIn SortedIn HoldsK size_flatK get_flatK holdsK_grow holdsK_putRowK holdsK_ahead putRowK)

instance : Inhabited TP := ⟨⟨0, 0, 0, 0, 0⟩⟩

def encP (p : TP) : List Value := [.int .i64 p.a, .int .i64 p.g, .int .i64 p.s, .int .i64 p.m, .int .i64 p.z]

theorem ltOf_rise (p q : TP) : ltOf riseV p q = decide (befP p q) := by
  rw [ltOf, decide_eq_decide]
  exact riseV_neg p q

theorem swoP : SWO (ltOf riseV) where
  irrefl x := by rw [ltOf_rise]; simpa using befP_irrefl x
  trans x y z h1 h2 := by
    rw [ltOf_rise, decide_eq_true_eq] at *
    exact befP_trans h1 h2
  ntrans x y z h1 h2 := by
    rw [ltOf_rise, decide_eq_false_iff_not] at *
    unfold befP at *
    omega

theorem cmpLaysP (blk off size : Nat) (w : World) : CmpLays Try.prog 44 #[] encP 5 riseV blk off size w :=
  fun _ _ _ _ x y => rise_any x y _

theorem add0P (g j : Nat) : (⟨g, 0, none⟩ : Addr).add j = ⟨g, j, none⟩ := by
  by_cases h : j = 0 <;> simp [Addr.add, h]

theorem holdsP {w : World} {base g c : Nat} {L : List TP} (h : w.ownsRow base 28 5 (.slice (some ⟨g, 0, none⟩) L.length c) L.length (cellsP L)) : HoldsK encP 5 w g 0 L.toArray := by
  intro j hj
  rw [size_flatK] at hj
  have hj' : j < L.length * 5 := by simpa using hj
  rw [get_flatK _ _ _ _ hj, Nat.zero_add, h.cellAt j hj']
  refine ⟨?_, h.frozenAt j⟩
  obtain ⟨p, hp⟩ : ∃ p, L[j / 5]? = some p := ⟨L[j / 5]'(by omega), by simp⟩
  have e := cellsP_get L _ p hp (j % 5) (by omega)
  rw [show j / 5 * 5 + j % 5 = j by omega] at e
  have hd : L.toArray[j / 5]! = p := by
    rw [getElem!_pos _ _ (by simp; omega)]
    simpa using (List.getElem?_eq_some_iff.1 hp).2
  rw [e, hd]
  have h5 : j % 5 < 5 := by omega
  generalize j % 5 = r at *
  match r, h5 with
  | 0, _ | 1, _ | 2, _ | 3, _ | 4, _ => rfl

set_option maxHeartbeats 1600000 in
theorem sortP_any (L : List TP) (base g c : Nat) (w : World) (hown : w.ownsRow base 28 5 (.slice (some ⟨g, 0, none⟩) L.length c) L.length (cellsP L)) (hlen : L.length ≤ 100) :
    Calls Try.prog 43 #[.slice (some ⟨g, 0, none⟩) L.length c, .func (.func 44) #[] #[]] w fun e w' =>
      e = .returned (.tuple #[]) ∧ (∃ M : List TP, M.Perm L ∧ (M.Pairwise fun p q => ¬ befP q p) ∧ TapsAt w' (some ⟨g, 0, none⟩) M) ∧ Below base w w' := by
  have eg : ∀ args w, (callFunc 44 args).run Try.prog w = .ok (.enter 44 args) w := enters_of Try.func44 (by kernel_rfl) rfl
  obtain ⟨hbg, hgl⟩ := hown.lt g rfl
  have hH := holdsP hown
  have hcon := AnyQ.slices_SortFunc sortLay 5 Try.isAgg28 Try.sizeOf28 encP (fun _ => rfl) (fun x v hv => by simp [encP] at hv; rcases hv with rfl | rfl | rfl | rfl | rfl <;> rfl) riseV swoP 44 #[] g 0 c L.toArray w eg (cmpLaysP g 0 L.toArray.size w) hH hgl (by simp; omega)
  change Calls Try.prog 43 _ _ _ at hcon
  rw [show L.toArray.size = L.length by simp] at hcon
  refine hcon.mono ?_
  rintro e w' ⟨rfl, d', n, os, ⟨hs, -, hp⟩, hso, rfl⟩
  have hs' : d'.size = L.length := by simpa using hs
  refine ⟨rfl, ⟨d'.toList, ?_, ?_, ?_⟩, ?_⟩
  · have e1 : d'.extract 0 L.length = d' := by rw [← hs']; simp
    have e2 : L.toArray.extract 0 L.length = L.toArray := by simp
    rw [e1, e2] at hp
    simpa using hp
  · rw [List.pairwise_iff_getElem]
    intro i j hi hj hij
    have hi' : i < d'.size := by simpa using hi
    have hj' : j < d'.size := by simpa using hj
    have h1 := hso i j (Nat.zero_le _) hij (by omega)
    rw [ltOf_rise, decide_eq_false_iff_not, getElem!_pos d' i hi', getElem!_pos d' j hj'] at h1
    simpa using h1
  · have h2 : HoldsK encP 5 (sortWorldK encP 5 w g 0 n d' os) g 0 d' := by
      unfold sortWorldK
      refine holdsK_grow encP 5 _ _ _ _ _ (by simpa [putRowK, Go.Sort.putRow, Go.Sort.mapBlock, Go.Sort.ahead] using hgl) ?_
      exact holdsK_putRowK encP 5 _ _ _ L.toArray d' (holdsK_ahead encP 5 w n g 0 L.toArray hH) (by simpa using hs)
    intro i p hp'
    refine ⟨_, rfl, ?_⟩
    have hi : i < d'.size := by
      have := (List.getElem?_eq_some_iff.1 hp').1
      simpa using this
    have hd : d'[i]! = p := by
      rw [getElem!_pos d' i hi]
      simpa using (List.getElem?_eq_some_iff.1 hp').2
    have hc := fun k hk => (h2.cell (i := i) (c := k) hi hk).1
    rw [hd] at hc
    simp only [Nat.zero_add] at hc
    rw [add0P]
    exact ⟨hc 0 (by omega), hc 1 (by omega), hc 2 (by omega), hc 3 (by omega), hc 4 (by omega)⟩
  · unfold sortWorldK
    refine ⟨rfl, rfl, rfl, ?_, ?_⟩
    · simp [grow, putRowK, Go.Sort.putRow, Go.Sort.mapBlock, Go.Sort.ahead]
    · intro k hk
      simp only [grow, putRowK, Go.Sort.putRow, Go.Sort.mapBlock, Go.Sort.ahead]
      rw [Array.getElem?_append_left (by simp; omega), Array.getElem?_modify, if_neg (by omega)]
end Go.Proofs.Ytefdnddaggpgkaa
