/-
  The contract of 'code.valuesOf'.
-/
import Derived.Test.YtcakfmpckbmdeabC1
namespace Go.Proofs.Ytcakfmpckbmdeab
open Go.RowKit

theorem info3 : (Try.prog.info? 3).map (fun i => (i.zero, i.size, i.bytes)) = some (some (.int .i64 0), 1, 8) := by kernel_rfl

/-- the values of signs; none, if one is none -/
def vals : List UInt8 → Option (List Nat)
  | [] => some []
  | b :: l => match vof b, vals l with
    | some v, some vs => some (v :: vs)
    | _, _ => none

theorem vals_cons_some {b : UInt8} {l : List UInt8} {r : List Nat} : vals (b :: l) = some r ↔ ∃ v vs, vof b = some v ∧ vals l = some vs ∧ r = v :: vs := by
  constructor
  · intro h
    unfold vals at h
    cases h1 : vof b with
    | none => simp [h1] at h
    | some v =>
      cases h2 : vals l with
      | none => simp [h1, h2] at h
      | some vs => simp [h1, h2] at h; exact ⟨v, vs, rfl, rfl, h.symm⟩
  · rintro ⟨v, vs, h1, h2, rfl⟩
    simp [vals, h1, h2]

theorem vals_snoc {l : List UInt8} {vs : List Nat} {b : UInt8} {v : Nat} (h : vals l = some vs) (hb : vof b = some v) : vals (l ++ [b]) = some (vs ++ [v]) := by
  induction l generalizing vs with
  | nil => simp [vals] at h; subst h; simp [vals, hb]
  | cons a l ih =>
    obtain ⟨u, us, h1, h2, rfl⟩ := vals_cons_some.1 h
    exact vals_cons_some.2 ⟨u, us ++ [v], h1, ih h2, rfl⟩

theorem vals_none {l : List UInt8} {b : UInt8} (hb : b ∈ l) (hv : vof b = none) : vals l = none := by
  induction l with
  | nil => cases hb
  | cons a l ih =>
    rcases List.mem_cons.1 hb with rfl | h
    · simp [vals, hv]
    · unfold vals; rw [ih h]; cases vof a <;> rfl

theorem vals_len {l : List UInt8} {vs : List Nat} (h : vals l = some vs) : vs.length = l.length := by
  induction l generalizing vs with
  | nil => simp [vals] at h; subst h; rfl
  | cons a l ih =>
    obtain ⟨u, us, h1, h2, rfl⟩ := vals_cons_some.1 h
    simp [ih h2]

theorem vals_lt {l : List UInt8} {vs : List Nat} (h : vals l = some vs) : ∀ v ∈ vs, v < 31 := by
  induction l generalizing vs with
  | nil => simp [vals] at h; subst h; simp
  | cons a l ih =>
    obtain ⟨u, us, h1, h2, rfl⟩ := vals_cons_some.1 h
    intro v hv
    rcases List.mem_cons.1 hv with rfl | hv
    · exact (vof_lt h1).1
    · exact ih h2 v hv

theorem vals_back {l : List UInt8} {vs : List Nat} (h : vals l = some vs) : vs.map sgn = l := by
  induction l generalizing vs with
  | nil => simp [vals] at h; subst h; rfl
  | cons a l ih =>
    obtain ⟨u, us, h1, h2, rfl⟩ := vals_cons_some.1 h
    simp [ih h2, (vof_lt h1).2]

theorem vals_sgn {vs : List Nat} (h : ∀ v ∈ vs, v < 31) : vals (vs.map sgn) = some vs := by
  induction vs with
  | nil => rfl
  | cons v vs ih =>
    exact vals_cons_some.2 ⟨v, vs, vof_sgn (h v (by simp)), ih (fun u hu => h u (by simp [hu])), rfl⟩

def iv (l : List Nat) : List Value := l.map fun n => Value.int .i64 ((n : Nat) : Int)
theorem iv_snoc (l : List Nat) (n : Nat) : iv (l ++ [n]) = iv l ++ [Value.int .i64 (n : Int)] := by simp [iv]

set_option maxHeartbeats 1600000 in
set_option maxRecDepth 100000 in
theorem valuesOf_any (s : ByteArray) (w : World) (hs : s.size ≤ 20) :
    Calls Try.prog 70 #[.string s] w fun e w' => Below w.heap.size w w' ∧
      ((∃ vs, vals s.data.toList = some vs ∧ e = .returned (.tuple #[.slice (some ⟨w.heap.size, 0, none⟩) s.size s.size, .bool true]) ∧ w'.ownsRow w.heap.size 3 1 (.slice (some ⟨w.heap.size, 0, none⟩) s.size s.size) s.size (iv vs)) ∨
       (vals s.data.toList = none ∧ e = .returned (.tuple #[.slice none 0 0, .bool false]))) := by
  obtain ⟨i0, hi, hz0, hz1, hz2⟩ := info_parts info3
  go_enter Try.func70, Try.ntmps70
  go_wp2_with (first
    | (at_make; refine wpList_make_own _ rfl _ _ 41 rfl w.heap.size 3 i0 (.int .i64 0) 1 Try.underlying41 hi hz0 hz1 .i64 .i64 _ s.size rfl rfl (by first | rfl | omega) (by rw [hz2]; omega) (by unfold maxLen; omega) (Nat.le_refl _) ?_; intro w0 hown0 hgrow0))
  go_loopw [4, 12] (fun v i wr => ∃ (k : Nat) (vs : List Nat), k ≤ s.size ∧ i = .int .i64 (k : Int) ∧ v = .slice (some ⟨w.heap.size, 0, none⟩) k s.size ∧ vals (s.data.toList.take k) = some vs ∧ wr.ownsRow w.heap.size 3 1 v k (iv vs) ∧ Below w.heap.size w wr)
    (fun _ i _ => s.size - (intOf i).toNat)
  case atStart => exact ⟨0, [], by omega, rfl, rfl, by simp [vals], by simpa [iv] using hown0, (Below.refl _ _).grown hgrow0 (Nat.le_refl _) (fun k h => by cases h)⟩
  case round =>
    obtain ⟨k, vs, hk, rfl, rfl, hv, hown, hb⟩ := hrel
    have HV := hide hv
    clear hv
    by_cases hlt : k < s.size
    · have hsz := hb.size
      go_wp2_with fail
      refine (idx_any _ rfl s[k] _).mono ?_
      rintro e w1 ⟨rfl, rfl⟩
      cases hvo : vof s[k] with
      | none =>
        rw [vof_none.1 hvo]
        have HO := hide hvo
        clear hvo
        go_wp2_with fail
        go_ret2
        exact ⟨hb, Or.inr ⟨vals_none (b := s[k]) (by
          have : s[k] = s.data.toList[k]'(by simpa using hlt) := rfl
          rw [this]; exact List.getElem_mem _) HO.out, rfl⟩⟩
      | some v =>
        rw [vof_some.1 hvo]
        have hv31 := (vof_lt hvo).1
        have HO := hide hvo
        clear hvo
        go_wp2_with (at_builtin; refine wpList_append_own_spare _ rfl (.tmp 21) (.tmp 23) 41 rfl w.heap.size 3 i0 1 Try.underlying41 hi hz1 w.heap.size k s.size _ rfl (hown.alloc _) ⟨w1.heap.size, 0, none⟩ 1 1 [.int .i64 (v : Int)] rfl rfl (cell_one_new _ _ _) (by intro u hu; simp at hu; subst hu; rfl) (by omega) ?_; intro w2 hown2 hgrow2)
        go_roundw
        case rel =>
          exact ⟨k + 1, vs ++ [v], by omega, by go_num, rfl, by rw [take_snoc s k hlt]; exact vals_snoc HV.out HO.out, by rw [iv_snoc]; exact hown2, (hb.alloc (by omega) _).grown hgrow2 (by simp; omega) (fun q hq => by cases hq; exact Nat.le_refl _)⟩
        case measure => simp [intOf]; omega
    · have hke : k = s.size := by omega
      have HE := hide hke
      go_wp2_with fail
      go_ret2
      subst hke
      refine ⟨hb, Or.inl ⟨vs, ?_, rfl, hown⟩⟩
      have := HV.out
      rwa [List.take_of_length_le (by simp)] at this
end Go.Proofs.Ytcakfmpckbmdeab
