/-
  The law 'CodeApart': its walk.
-/
import Derived.Test.YtcakfmpckbmdeabC10
import Derived.Test.YtcakfmpckbmdeabD1
namespace Go.Proofs.Ytcakfmpckbmdeab
open Go.RowKit

theorem printed_apart (i k f t z r i' k' f' t' z' r' : Int) (h0 : chk i k f t z r = 0) (h0' : chk i' k' f' t' z' r' = 0) :
    ((printV i k f t z r).1 = (printV i' k' f' t' z' r').1) ↔ (i = i' ∧ k = k' ∧ f = f' ∧ t = t' ∧ z = z' ∧ r = r') := by
  obtain ⟨i, k, f, t, z, r, rfl, rfl, rfl, rfl, rfl, rfl, hr⟩ := right_of _ _ _ _ _ _ h0
  obtain ⟨i', k', f', t', z', r', rfl, rfl, rfl, rfl, rfl, rfl, hr'⟩ := right_of _ _ _ _ _ _ h0'
  rw [printV_right hr, printV_right hr']
  constructor
  · intro e
    have e1 : codeL (num (encL i k f t z r)) = codeL (num (encL i' k' f' t' z' r')) := e
    have h1 := parse_print hr
    have h2 := parse_print hr'
    rw [e1, h2] at h1
    simp [tk] at h1
    omega
  · rintro ⟨e1, e2, e3, e4, e5, e6⟩
    rw [show i = i' by omega, show k = k' by omega, show f = f' by omega, show t = t' by omega, show z = z' by omega, show r = r' by omega]

/-- what Print says: nothing and an error, or fourteen signs -/
theorem print_cases (i k f t z r : Int) : ∃ (A : ByteArray) (e : Int), A = ⟨(printV i k f t z r).1.toArray⟩ ∧ e = (printV i k f t z r).2 ∧
    ((A = ⟨#[]⟩ ∧ (e != 0) = true ∧ (e == 0) = false) ∨
      (e = 0 ∧ chk i k f t z r = 0 ∧ A.size = 14 ∧ (vals A.data.toList).isSome = true)) := by
  refine ⟨_, _, rfl, rfl, ?_⟩
  by_cases h : chk i k f t z r = 0
  · refine Or.inr ?_
    have hp : printV i k f t z r = (codeL (num (encV i k f t z r).1), 0) := by unfold printV; rw [if_pos h]
    rw [hp]
    refine ⟨rfl, h, ?_, ?_⟩
    · simpa [ByteArray.size] using codeL_len _
    · simp only [codeL, vals_sgn (codeD_lt _), Option.isSome_some]
  · refine Or.inl ?_
    have hp : printV i k f t z r = ([], chk i k f t z r) := by unfold printV; rw [if_neg h]
    rw [hp]
    exact ⟨rfl, by simpa using h, by simpa using h⟩

set_option maxHeartbeats 1600000 in
set_option maxRecDepth 100000 in
theorem codeApart_walk (i k f t z r i' k' f' t' z' r' : Int) (w : World) :
    Calls Try.prog 3 #[tk i k f t z r, tk i' k' f' t' z' r'] w fun e w' => e = .returned (.bool true) ∧ Below w.heap.size w w' := by
  have hap := hide (printed_apart i k f t z r i' k' f' t' z' r')
  obtain ⟨A, e, hA, he, hc⟩ := print_cases i k f t z r
  obtain ⟨A', e', hA', he', hc'⟩ := print_cases i' k' f' t' z' r'
  have HP := hide (show ∀ W : World, Calls Try.prog 9 #[tk i k f t z r] W fun x W' => x = .returned (.tuple #[.string A, .int .i64 e]) ∧ Below W.heap.size W W' from
    fun W => by rw [hA, he]; exact print_any i k f t z r W)
  have HP' := hide (show ∀ W : World, Calls Try.prog 9 #[tk i' k' f' t' z' r'] W fun x W' => x = .returned (.tuple #[.string A', .int .i64 e']) ∧ Below W.heap.size W W' from
    fun W => by rw [hA', he']; exact print_any i' k' f' t' z' r' W)
  have HQ := hide (show chk i k f t z r = 0 → chk i' k' f' t' z' r' = 0 → (A.toList = A'.toList ↔ (i = i' ∧ k = k' ∧ f = f' ∧ t = t' ∧ z = z' ∧ r = r')) from
    fun a b => by
      rw [← hap.out a b, hA, hA', toList_mk, toList_mk])
  clear hA he hA' he' hap
  have hsix := fun (w1 : World) (hb1 : Below ((w.alloc (.cells #[.int .i64 i, .int .i64 k, .int .i64 f, .int .i64 t, .int .i64 z, .int .i64 r] 23)).alloc (.cells #[.int .i64 i', .int .i64 k', .int .i64 f', .int .i64 t', .int .i64 z', .int .i64 r'] 23)).heap.size ((w.alloc (.cells #[.int .i64 i, .int .i64 k, .int .i64 f, .int .i64 t, .int .i64 z, .int .i64 r] 23)).alloc (.cells #[.int .i64 i', .int .i64 k', .int .i64 f', .int .i64 t', .int .i64 z', .int .i64 r'] 23)) w1) =>
    (And.intro (((six_new w (.int .i64 i) (.int .i64 k) (.int .i64 f) (.int .i64 t) (.int .i64 z) (.int .i64 r) 23).alloc (.cells #[.int .i64 i', .int .i64 k', .int .i64 f', .int .i64 t', .int .i64 z', .int .i64 r'] 23)).kp (Kp.ofBelow (S := fun _ => False) hb1) (fun h => h))
      ((six_at (n := w.heap.size + 1) (w.alloc (.cells #[.int .i64 i, .int .i64 k, .int .i64 f, .int .i64 t, .int .i64 z, .int .i64 r] 23)) (by simp) (.int .i64 i') (.int .i64 k') (.int .i64 f') (.int .i64 t') (.int .i64 z') (.int .i64 r') 23).kp (Kp.ofBelow (S := fun _ => False) hb1) (fun h => h)))
  have HS := hide hsix
  clear hsix
  have HC := hide hc
  have HC' := hide hc'
  clear hc hc'
  rcases HC.out with ⟨rfl, h1, h2⟩ | ⟨rfl, hk, hl, hs⟩ <;> rcases HC'.out with ⟨rfl, h1', h2'⟩ | ⟨rfl, hk', hl', hs'⟩
  all_goals
    clear HC HC'
    go_enter Try.func3, Try.ntmps3
    go_wp2_with fail
    refine (HP.out _).mono ?_
    rintro ee w1 ⟨rfl, hb1⟩
    obtain ⟨⟨c0, c1, c2, c3, c4, c5, y⟩, ⟨d0, d1, d2, d3, d4, d5, y'⟩⟩ := HS.out w1 hb1
    go_wp2_with fail
    refine (HP'.out _).mono ?_
    rintro ee w2 ⟨rfl, hb2⟩
    obtain ⟨c0, c1, c2, c3, c4, c5, y⟩ := (Six.mk c0 c1 c2 c3 c4 c5 y).kp (Kp.ofBelow (S := fun _ => False) hb2) (fun h => h)
    obtain ⟨d0, d1, d2, d3, d4, d5, y'⟩ := (Six.mk d0 d1 d2 d3 d4 d5 y').kp (Kp.ofBelow (S := fun _ => False) hb2) (fun h => h)
    go_wp2_with fail
    refine (codeBegun_any _).mono ?_
    rintro ee w3 ⟨rfl, hb3⟩
    obtain ⟨c0, c1, c2, c3, c4, c5, y⟩ := (Six.mk c0 c1 c2 c3 c4 c5 y).kp (Kp.ofBelow (S := fun _ => False) hb3) (fun h => h)
    obtain ⟨d0, d1, d2, d3, d4, d5, y'⟩ := (Six.mk d0 d1 d2 d3 d4 d5 y').kp (Kp.ofBelow (S := fun _ => False) hb3) (fun h => h)
    have hB : Below w.heap.size w w3 := ((((Below.refl _ _).alloc (Nat.le_refl _) _).alloc (by simp) _).trans (hb1.mono (by simp; omega)) |>.trans (hb2.mono (by have := hb1.size; simp at this; omega))).trans (hb3.mono (by have := hb1.size; have := hb2.size; simp at *; omega))
    go_wp2_with fail
  · go_ret
    exact ⟨by simp, hB⟩
  · go_ret
    exact ⟨by simp, hB⟩
  · go_ret
    exact ⟨by simp, hB⟩
  · refine (areSigns_any A _ (by omega)).mono ?_
    rintro ee w4 ⟨rfl, rfl⟩
    rw [hs]
    have hh := HQ.out hk hk'
    clear HQ HS HP HP'
    go_wp2_with fail
    all_goals
      go_ret
      refine ⟨?_, hB⟩
      clear hB
      simp [*]
end Go.Proofs.Ytcakfmpckbmdeab
