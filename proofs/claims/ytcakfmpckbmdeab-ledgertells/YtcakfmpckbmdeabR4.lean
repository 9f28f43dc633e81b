/-
  The document's answers on ledgers: 'TicketAt', 'isTwice' (package leeboardref).
-/
import Derived.Test.YtcakfmpckbmdeabR3
namespace Go.Proofs.Ytcakfmpckbmdeab
open Go.RowKit

/-- a ticket -/
structure TK where
  i : Int
  k : Int
  f : Int
  t : Int
  z : Int
  r : Int

/-- a ticket that lies in memory -/
structure Tik6 (w : World) (b : Addr) (p : TK) : Prop where
  c0 : w.cell? b = some (.int .i64 p.i)
  c1 : w.cell? ⟨b.block, b.off + 1, none⟩ = some (.int .i64 p.k)
  c2 : w.cell? ⟨b.block, b.off + 2, none⟩ = some (.int .i64 p.f)
  c3 : w.cell? ⟨b.block, b.off + 3, none⟩ = some (.int .i64 p.t)
  c4 : w.cell? ⟨b.block, b.off + 4, none⟩ = some (.int .i64 p.z)
  c5 : w.cell? ⟨b.block, b.off + 5, none⟩ = some (.int .i64 p.r)

theorem Tik6.lt {w : World} {b : Addr} {p : TK} (h : Tik6 w b p) : b.block < w.heap.size := World.block_lt_of_cell? w b h.c0

theorem Tik6.below {B : Nat} {w w' : World} {b : Addr} {p : TK} (h : Tik6 w b p) (hb : Below B w w') (hlt : b.block < B) : Tik6 w' b p :=
  ⟨by rw [hb.cell hlt]; exact h.c0, by rw [hb.cell (p := ⟨b.block, b.off + 1, none⟩) hlt]; exact h.c1, by rw [hb.cell (p := ⟨b.block, b.off + 2, none⟩) hlt]; exact h.c2,
    by rw [hb.cell (p := ⟨b.block, b.off + 3, none⟩) hlt]; exact h.c3, by rw [hb.cell (p := ⟨b.block, b.off + 4, none⟩) hlt]; exact h.c4,
    by rw [hb.cell (p := ⟨b.block, b.off + 5, none⟩) hlt]; exact h.c5⟩

/-- tickets that lie in memory from an address on -/
def TiksAt (w : World) (o : Option Addr) (L : List TK) : Prop := ∀ i p, L[i]? = some p → ∃ b, o = some b ∧ Tik6 w (b.add (i * 6)) p

theorem TiksAt.below {w w' : World} {o : Option Addr} {L : List TK} (h : TiksAt w o L) (hb : Below w.heap.size w w') : TiksAt w' o L :=
  fun i p hi => have ⟨b, e, h5⟩ := h i p hi; ⟨b, e, h5.below hb h5.lt⟩

/-- the place of a ticket; -1: it is not there -/
def idxT (L : List TK) (id : Int) : Int := match L.findIdx? (fun p => p.i == id) with
  | some n => n
  | none => -1

theorem idxT_some {L : List TK} {id : Int} {q : Nat} {p : TK} (h : L[q]? = some p) (hp : p.i = id) (hno : ∀ j, j < q → ∀ p, L[j]? = some p → p.i ≠ id) : idxT L id = q := by
  obtain ⟨hq, he⟩ := List.getElem?_eq_some_iff.1 h
  have : L.findIdx? (fun p => p.i == id) = some q := by
    rw [List.findIdx?_eq_some_iff_getElem]
    refine ⟨hq, by rw [he]; simpa using hp, fun j hj => ?_⟩
    have := hno j hj L[j] (by simp)
    simpa using this
  rw [idxT, this]

theorem idxT_none {L : List TK} {id : Int} (hno : ∀ (j : Nat) (p : TK), L[j]? = some p → p.i ≠ id) : idxT L id = -1 := by
  have : L.findIdx? (fun p => p.i == id) = none := by
    rw [List.findIdx?_eq_none_iff]
    intro p hp
    obtain ⟨j, hj⟩ := List.mem_iff_getElem?.1 hp
    simpa using hno j p hj
  rw [idxT, this]

set_option maxHeartbeats 1600000 in
theorem ticketAt_any (o : Option Addr) (cap : Nat) (L : List TK) (id : Int) (w : World) (hL : TiksAt w o L) (hlen : L.length ≤ 9223372036854775807) :
    Calls Try.prog 25 #[.slice o L.length cap, .int .i64 id] w fun e w' => e = .returned (.int .i64 (idxT L id)) ∧ w' = w := by
  have HL := hide hL
  clear hL
  go_enter Try.func25, Try.ntmps25
  go_wp2
  go_loop [5] (fun i => ∃ q : Nat, q ≤ L.length ∧ i = .int .i64 q ∧ Hid (∀ j, j < q → ∀ p, L[j]? = some p → p.i ≠ id)) (fun i => L.length - (intOf i).toNat)
  case atStart => exact ⟨0, Nat.zero_le _, rfl, by intro j hj; omega⟩
  case round =>
    obtain ⟨q, hq, rfl, hno⟩ := hrel
    by_cases hlt : q < L.length
    · obtain ⟨p, hp⟩ : ∃ p, L[q]? = some p := ⟨L[q], by simp [hlt]⟩
      obtain ⟨A, rfl, c0, _, _, _, _, _⟩ := HL.out q p hp
      have HPq := hide hp
      clear hp
      by_cases he : p.i = id
      · have he' : (p.i == id) = true := by simpa using he
        have HR := hide (idxT_some HPq.out he hno.out)
        clear he
        go_wp2_with fail
        go_ret
        exact ⟨by rw [HR.out]; rfl, rfl⟩
      · have he' : (p.i == id) = false := by simpa using he
        have HN : Hid (∀ j, j < q + 1 → ∀ p, L[j]? = some p → p.i ≠ id) := by
          intro j hj p' hp'
          by_cases h : j < q
          · exact hno.out j h p' hp'
          · obtain rfl : j = q := by omega
            rw [HPq.out] at hp'
            cases hp'
            exact he
        clear he
        go_wp2_with fail
        exact ⟨⟨q + 1, by omega, by simp, HN⟩, by simp [intOf]; omega⟩
    · have HR := hide (idxT_none (L := L) (id := id) (fun j p hp => hno.out j (by have := (List.getElem?_eq_some_iff.1 hp).1; omega) p hp))
      go_wp2_with fail
      go_ret
      exact ⟨by rw [HR.out]; rfl, rfl⟩

/-- has one of some taps a tap's gate and number? -/
def twiceT (L : List TP) (p : TP) : Bool := L.any fun x => x.g == p.g && x.s == p.s

set_option maxHeartbeats 1600000 in
theorem isTwice_any (o : Option Addr) (cap : Nat) (L : List TP) (n : Nat) (a g s m z : Int) (w : World) (hL : TapsAt w o L) (hn : n ≤ L.length) (hlen : L.length ≤ 9223372036854775807) :
    Calls Try.prog 62 #[.slice o L.length cap, .int .i64 n, tp a g s m z] w fun e w' => e = .returned (.bool (twiceT (L.take n) ⟨a, g, s, m, z⟩)) ∧ Below w.heap.size w w' := by
  have HL := hide hL
  clear hL
  go_enter Try.func62, Try.ntmps62
  go_wp2
  go_loopw [7] (fun i wr => ∃ q : Nat, q ≤ n ∧ i = .int .i64 q ∧ Hid (twiceT (L.take q) ⟨a, g, s, m, z⟩ = false) ∧ Below (w.heap.size + 1) (w.alloc (.cells #[.int .i64 a, .int .i64 g, .int .i64 s, .int .i64 m, .int .i64 z] 32)) wr) (fun i _ => n - (intOf i).toNat)
  case atStart => exact ⟨0, Nat.zero_le _, rfl, rfl, Below.refl _ _⟩
  case round =>
    obtain ⟨q, hq, rfl, hno, hbr⟩ := hrel
    have d1 : wr.cell? ⟨w.heap.size, 1, none⟩ = some (.int .i64 g) := by rw [hbr.cell (p := ⟨w.heap.size, 1, none⟩) (show w.heap.size < w.heap.size + 1 by omega)]; simp [go_sem]
    have d2 : wr.cell? ⟨w.heap.size, 2, none⟩ = some (.int .i64 s) := by rw [hbr.cell (p := ⟨w.heap.size, 2, none⟩) (show w.heap.size < w.heap.size + 1 by omega)]; simp [go_sem]
    have HB := hide (show Below w.heap.size w wr from ((Below.refl _ _).alloc (Nat.le_refl _) _).trans (hbr.mono (by omega)))
    by_cases hlt : q < n
    · obtain ⟨p, hp⟩ : ∃ p, L[q]? = some p := ⟨L[q], by simp⟩
      have HS : Hid (twiceT (L.take (q + 1)) ⟨a, g, s, m, z⟩ = (p.g == g && p.s == s)) := by
        show _ = _
        rw [List.take_add_one, hp]
        have := hno.out
        simp only [twiceT] at this
        simp [twiceT, this]
      obtain ⟨A, rfl, c0, c1, c2, _, _⟩ := (HL.out.below HB.out) q p hp
      have HPq := hide hp
      clear hp
      have hpick : ((p.g == g) = true ∧ (p.s == s) = true ∧ Hid (twiceT (L.take (q + 1)) ⟨a, g, s, m, z⟩ = true)) ∨ ((p.g == g) = true ∧ (p.s == s) = false ∧ Hid (twiceT (L.take (q + 1)) ⟨a, g, s, m, z⟩ = false)) ∨
          ((p.g == g) = false ∧ Hid (twiceT (L.take (q + 1)) ⟨a, g, s, m, z⟩ = false)) := by
        have h := HS.out
        cases h1 : (p.g == g) <;> cases h2 : (p.s == s) <;> rw [h1, h2] at h
        · exact Or.inr (Or.inr ⟨rfl, h⟩)
        · exact Or.inr (Or.inr ⟨rfl, h⟩)
        · exact Or.inr (Or.inl ⟨rfl, rfl, h⟩)
        · exact Or.inl ⟨rfl, rfl, h⟩
      rcases hpick with ⟨h1, h2, h3⟩ | ⟨h1, h2, h3⟩ | ⟨h1, h3⟩
      · have HT : Hid (twiceT (L.take n) ⟨a, g, s, m, z⟩ = true) := by
          show _ = _
          have h := h3.out
          simp only [twiceT, List.any_eq_true] at h ⊢
          obtain ⟨x, hx, hx'⟩ := h
          exact ⟨x, (List.take_subset_take_left (l := L) (by omega : q + 1 ≤ n)) hx, hx'⟩
        go_wp2
        go_region
        go_wp2_with fail
        go_ret
        exact ⟨by rw [HT.out]; rfl, HB.out.drew⟩
      all_goals
        go_wp2
        go_region
        go_wp2_with fail
        exact ⟨⟨q + 1, by omega, by simp, h3, hbr.drew⟩, by simp [intOf]; omega⟩
    · obtain rfl : q = n := by omega
      go_wp2_with fail
      go_ret
      exact ⟨by rw [hno.out]; rfl, HB.out⟩
end Go.Proofs.Ytcakfmpckbmdeab
