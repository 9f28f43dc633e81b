/-
  The document's answers on ledgers: 'ManyOf' (package leeboardref).
-/
import Derived.Test.YtcakfmpckbmdeabR4
namespace Go.Proofs.Ytcakfmpckbmdeab
open Go.RowKit

/-- integers that lie in memory from an address on -/
def IntsAt (w : World) (o : Option Addr) (L : List Int) : Prop := ∀ (i : Nat) (v : Int), L[i]? = some v → ∃ b, o = some b ∧ w.cell? (b.add i) = some (.int .i64 v)

theorem IntsAt.below {w w' : World} {o : Option Addr} {L : List Int} (h : IntsAt w o L) (hb : Below w.heap.size w w') : IntsAt w' o L :=
  fun i v hi => have ⟨b, e, h1⟩ := h i v hi; ⟨b, e, by rw [hb.cell (World.block_lt_of_cell? w _ h1)]; exact h1⟩

/-- a ledger, as the model holds it -/
abbrev lg (o1 o2 o3 : Option Addr) (n1 c1 n2 c2 n3 c3 : Nat) : Value := .agg #[.slice o1 n1 c1, .slice o2 n2 c2, .slice o3 n3 c3]

/-- rides of a ticket: how many, and when the last one was -/
def many (L : List (TP × Int)) (id : Int) : Int × Int := L.foldl (fun s x => if x.1.a = id ∧ x.2 = 1 then (s.1 + 1, x.1.m) else s) (0, -1)

theorem many_snoc (L : List (TP × Int)) (x : TP × Int) (id : Int) : many (L ++ [x]) id = if x.1.a = id ∧ x.2 = 1 then ((many L id).1 + 1, x.1.m) else many L id := by
  simp [many, List.foldl_append]

theorem many_from (L : List (TP × Int)) (id : Int) : ∀ s : Int × Int, s.1 ≤ (L.foldl (fun s x => if x.1.a = id ∧ x.2 = 1 then (s.1 + 1, x.1.m) else s) s).1 ∧
    (L.foldl (fun s x => if x.1.a = id ∧ x.2 = 1 then (s.1 + 1, x.1.m) else s) s).1 ≤ s.1 + L.length := by
  induction L with
  | nil => intro s; simp
  | cons x L ih =>
    intro s
    rw [List.foldl_cons, List.length_cons]
    split
    · have h := ih (s.1 + 1, x.1.m)
      simp only at h
      omega
    · have h := ih s
      omega

theorem many_bound (L : List (TP × Int)) (id : Int) : 0 ≤ (many L id).1 ∧ (many L id).1 ≤ L.length := by
  have h := many_from L id (0, -1)
  simp only [Int.zero_add] at h
  exact h

set_option maxHeartbeats 3200000 in
theorem manyOf_any (o1 o2 o3 : Option Addr) (n1 c1 c2 c3 : Nat) (L : List TP) (V : List Int) (id : Int) (n : Nat) (w : World) (hL : TapsAt w o2 L) (hV : IntsAt w o3 V)
    (hn : n ≤ L.length) (hn' : n ≤ V.length) (hlen : L.length ≤ 9223372036854775807) :
    Calls Try.prog 24 #[lg o1 o2 o3 n1 c1 L.length c2 V.length c3, .int .i64 id, .int .i64 n] w fun e w' =>
      e = .returned (.tuple #[.int .i64 (many ((L.zip V).take n) id).1, .int .i64 (many ((L.zip V).take n) id).2]) ∧ Below w.heap.size w w' := by
  have HL := hide hL
  have HV := hide hV
  clear hL hV
  go_enter Try.func24, Try.ntmps24
  go_wp2
  go_loopw [8, 9, 10] (fun x y i wr => ∃ (q : Nat) (c l : Int), q ≤ n ∧ i = .int .i64 q ∧ x = .int .i64 c ∧ y = .int .i64 l ∧ 0 ≤ c ∧ c ≤ q ∧ Hid (many ((L.zip V).take q) id = (c, l)) ∧ Below (w.heap.size + 1) (w.alloc (.cells #[.slice o1 n1 c1, .slice o2 L.length c2, .slice o3 V.length c3] 43)) wr) (fun _ _ i _ => n - (intOf i).toNat)
  case atStart => exact ⟨0, 0, -1, Nat.zero_le _, rfl, rfl, rfl, by omega, by omega, rfl, Below.refl _ _⟩
  case round =>
    obtain ⟨q, c, l, hq, rfl, rfl, rfl, hc0, hcq, hM, hbr⟩ := hrel
    have d1 : wr.cell? ⟨w.heap.size, 1, none⟩ = some (.slice o2 L.length c2) := by rw [hbr.cell (p := ⟨w.heap.size, 1, none⟩) (show w.heap.size < w.heap.size + 1 by omega)]; simp [go_sem]
    have d2 : wr.cell? ⟨w.heap.size, 2, none⟩ = some (.slice o3 V.length c3) := by rw [hbr.cell (p := ⟨w.heap.size, 2, none⟩) (show w.heap.size < w.heap.size + 1 by omega)]; simp [go_sem]
    have HB := hide (show Below w.heap.size w wr from ((Below.refl _ _).alloc (Nat.le_refl _) _).trans (hbr.mono (by omega)))
    by_cases hlt : q < n
    · have hqL : q < L.length := by omega
      have hqV : q < V.length := by omega
      obtain ⟨p, hp⟩ : ∃ p, L[q]? = some p := ⟨L[q], by simp [hqL]⟩
      obtain ⟨v, hv⟩ : ∃ v, V[q]? = some v := ⟨V[q], by simp [hqV]⟩
      have HS : Hid (many ((L.zip V).take (q + 1)) id = if p.a = id ∧ v = 1 then (c + 1, p.m) else (c, l)) := by
        show _ = _
        have hz : (L.zip V)[q]? = some (p, v) := by rw [List.getElem?_zip_eq_some]; exact ⟨hp, hv⟩
        rw [List.take_add_one, hz, Option.toList_some, many_snoc, hM.out]
      obtain ⟨A, rfl, e0, _, _, e3, _⟩ := (HL.out.below HB.out) q p hp
      obtain ⟨A', rfl, f0⟩ := (HV.out.below HB.out) q v hv
      clear hp hv hM
      have hpick : ((p.a == id) = true ∧ (v == 1) = true ∧ Hid (many ((L.zip V).take (q + 1)) id = (c + 1, p.m))) ∨ ((p.a == id) = true ∧ (v == 1) = false ∧ Hid (many ((L.zip V).take (q + 1)) id = (c, l))) ∨
          ((p.a == id) = false ∧ Hid (many ((L.zip V).take (q + 1)) id = (c, l))) := by
        have h := HS.out
        by_cases h1 : p.a = id
        · by_cases h2 : v = 1
          · rw [if_pos ⟨h1, h2⟩] at h
            exact Or.inl ⟨by simpa using h1, by simpa using h2, h⟩
          · rw [if_neg (fun x => h2 x.2)] at h
            exact Or.inr (Or.inl ⟨by simpa using h1, by simpa using h2, h⟩)
        · rw [if_neg (fun x => h1 x.1)] at h
          exact Or.inr (Or.inr ⟨by simpa using h1, h⟩)
      rcases hpick with ⟨h1, h2, h3⟩ | ⟨h1, h2, h3⟩ | ⟨h1, h3⟩
      · go_wp2_with fail
        exact ⟨⟨q + 1, c + 1, _, by omega, by simp, rfl, rfl, by omega, by omega, h3, hbr⟩, by simp [intOf]; omega⟩
      all_goals
        go_wp2_with fail
        exact ⟨⟨q + 1, c, l, by omega, by simp, rfl, rfl, by omega, by omega, h3, hbr⟩, by simp [intOf]; omega⟩
    · obtain rfl : q = n := by omega
      go_wp2_with fail
      go_ret2
      exact ⟨by rw [hM.out]; rfl, HB.out⟩
end Go.Proofs.Ytcakfmpckbmdeab
