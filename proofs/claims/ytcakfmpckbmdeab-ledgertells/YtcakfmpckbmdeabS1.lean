/-
  'Sell' (package ledger).
-/
import Derived.Test.YtcakfmpckbmdeabL8
import Derived.Test.YtcakfmpckbmdeabK4
import Derived.Test.YtcakfmpckbmdeabH1
namespace Go.Proofs.Ytcakfmpckbmdeab
open Go.RowKit

/-- a ledger that lies behind a value -/
def LedV (w : World) (v : Value) (T : List TK) (P : List TP) (V : List Int) : Prop := ∃ v1 v2 v3, v = .agg #[v1, v2, v3] ∧ TiksV w v1 T ∧ TapsV w v2 P ∧ IntsV w v3 V

theorem LedV.below {w w' : World} {v : Value} {T : List TK} {P : List TP} {V : List Int} (h : LedV w v T P V) (hb : Below w.heap.size w w') : LedV w' v T P V :=
  have ⟨v1, v2, v3, e, h1, h2, h3⟩ := h; ⟨v1, v2, v3, e, h1.below hb, h2.below hb, h3.below hb⟩

theorem tiksV_nil (w : World) : TiksV w (.slice none 0 0) [] := ⟨none, 0, rfl, fun i p h => by simp at h, by simp, fun _ => rfl⟩
theorem tapsV_nil (w : World) : TapsV w (.slice none 0 0) [] := ⟨none, 0, rfl, fun i p h => by simp at h, by simp, fun _ => rfl⟩
theorem intsV_nil (w : World) : IntsV w (.slice none 0 0) [] := ⟨none, 0, rfl, fun i p h => by simp at h, by simp, fun _ => rfl⟩
theorem ledV_none (w : World) : LedV w (lg none none none 0 0 0 0 0 0) [] [] [] := ⟨_, _, _, rfl, tiksV_nil w, tapsV_nil w, intsV_nil w⟩

/-- what is wrong with a ticket that is to be sold -/
def sellE (T : List TK) (P : List TP) (V : List Int) (t : TK) : Int := firstE [chkL T P V, chkK t, if hasT T t.i = true then 6 else 0, if T.length = 12 then 2 else 0]
/-- the tickets with one more -/
def soldT (T : List TK) (t : TK) : List TK := T.take (posT T t.i) ++ [t] ++ T.drop (posT T t.i)

/-- the three boxes of Sell -/
def BoxesS (w w1 : World) (o1 o2 o3 : Option Addr) (n1 c1 n2 c2 n3 c3 : Nat) (t : TK) : Prop :=
  Led3 w1 w.heap.size o1 o2 o3 n1 c1 n2 c2 n3 c3 ∧ Tik6 w1 ⟨w.heap.size + 1, 0, none⟩ t ∧ w1.heap[w.heap.size + 1 + 1]? = some (cL none none none 0 0 0 0 0 0 43) ∧ w.heap.size + 1 + 1 < w1.heap.size ∧ Below w.heap.size w w1

theorem heap_alloc_new' (w : World) (o : Obj) (n : Nat) (h : n = w.heap.size) : (w.alloc o).heap[n]? = some o := by
  subst h
  exact heap_alloc_new w o

theorem boxesS_of (o1 o2 o3 : Option Addr) (n1 c1 n2 c2 n3 c3 : Nat) (i k f t z r : Int) (w w1 : World) (h : Below (((w.alloc (cL o1 o2 o3 n1 c1 n2 c2 n3 c3 43)).alloc (cK i k f t z r 23)).alloc (cL none none none 0 0 0 0 0 0 43)).heap.size (((w.alloc (cL o1 o2 o3 n1 c1 n2 c2 n3 c3 43)).alloc (cK i k f t z r 23)).alloc (cL none none none 0 0 0 0 0 0 43)) w1) :
    BoxesS w w1 o1 o2 o3 n1 c1 n2 c2 n3 c3 ⟨i, k, f, t, z, r⟩ := by
  have s1 := h.size
  simp at s1
  refine ⟨Led3.below (w := ((w.alloc (cL o1 o2 o3 n1 c1 n2 c2 n3 c3 43)).alloc (cK i k f t z r 23)).alloc (cL none none none 0 0 0 0 0 0 43)) ⟨?_, ?_, ?_⟩ h (by simp; omega), Tik6.below (w := ((w.alloc (cL o1 o2 o3 n1 c1 n2 c2 n3 c3 43)).alloc (cK i k f t z r 23)).alloc (cL none none none 0 0 0 0 0 0 43)) ⟨?_, ?_, ?_, ?_, ?_, ?_⟩ h (by simp), ?_, by omega,
    Below.trans ((((Below.refl _ _).alloc (Nat.le_refl _) _).alloc (by simp) _).alloc (by simp; omega) _) (h.mono (by simp; omega))⟩
  all_goals first | (rw [h.block _ (by simp)]; exact heap_alloc_new' _ _ _ (by simp)) | simp [go_sem]

theorem BoxesS.on {w w1 w2 : World} {o1 o2 o3 : Option Addr} {n1 c1 n2 c2 n3 c3 : Nat} {t : TK} (h : BoxesS w w1 o1 o2 o3 n1 c1 n2 c2 n3 c3 t) (hb : Below w1.heap.size w1 w2) : BoxesS w w2 o1 o2 o3 n1 c1 n2 c2 n3 c3 t :=
  ⟨h.1.below hb h.1.lt, h.2.1.below hb h.2.1.lt, by rw [hb.block _ h.2.2.2.1]; exact h.2.2.1, Nat.lt_of_lt_of_le h.2.2.2.1 hb.size, h.2.2.2.2.trans (hb.mono h.2.2.2.2.size)⟩

/-- what the region that makes a new ledger leaves alone -/
def KeptS (w w' : World) (o1 o2 o3 : Option Addr) (n1 c1 n2 c2 n3 c3 : Nat) (t : TK) : Prop :=
  Led3 w' w.heap.size o1 o2 o3 n1 c1 n2 c2 n3 c3 ∧ Tik6 w' ⟨w.heap.size + 1, 0, none⟩ t ∧ w.heap.size + 1 + 1 < w'.heap.size ∧ Below w.heap.size w w'

theorem BoxesS.kept {w w1 : World} {o1 o2 o3 : Option Addr} {n1 c1 n2 c2 n3 c3 : Nat} {t : TK} (h : BoxesS w w1 o1 o2 o3 n1 c1 n2 c2 n3 c3 t) : KeptS w w1 o1 o2 o3 n1 c1 n2 c2 n3 c3 t := ⟨h.1, h.2.1, h.2.2.2.1, h.2.2.2.2⟩

theorem KeptS.set {w w1 : World} {o1 o2 o3 : Option Addr} {n1 c1 n2 c2 n3 c3 : Nat} {t : TK} (h : KeptS w w1 o1 o2 o3 n1 c1 n2 c2 n3 c3 t) (j : Nat) (u : Value) : KeptS w (w1.setCell ⟨w.heap.size + 1 + 1, j, none⟩ u) o1 o2 o3 n1 c1 n2 c2 n3 c3 t := by
  have hb : Below (w.heap.size + 1 + 1) w1 (w1.setCell ⟨w.heap.size + 1 + 1, j, none⟩ u) := Below.setCell (Below.refl _ _) (p := ⟨w.heap.size + 1 + 1, j, none⟩) (Nat.le_refl _) u
  exact ⟨h.1.below hb (by omega), h.2.1.below hb (by simp), Nat.lt_of_lt_of_le h.2.2.1 hb.size, h.2.2.2.trans (hb.mono (by omega))⟩

theorem at_set {w : World} {A : Addr} {p : Addr} {u : Value} {n : Nat} {v : Value} (hne : p.block < A.block) (h : w.cell? (A.add n) = some v) : (w.setCell p u).cell? (A.add n) = some v := by
  rw [World.cell?_setCell_other]
  · exact h
  · intro e
    have : (A.add n).block = A.block := add_block A n
    rw [← e] at this
    omega

theorem at_set' {w : World} {A : Addr} {p : Addr} {u : Value} {n j : Nat} {v : Value} (hne : p.block < A.block) (h : w.cell? ⟨(A.add n).block, (A.add n).off + j, none⟩ = some v) : (w.setCell p u).cell? ⟨(A.add n).block, (A.add n).off + j, none⟩ = some v := by
  rw [World.cell?_setCell_other]
  · exact h
  · intro e
    have : (A.add n).block = A.block := add_block A n
    rw [e] at hne
    simp only [] at hne
    omega

theorem TiksV.set {w : World} {B : Nat} {v : Value} {L : List TK} (h : TiksV w v L) (hf : Fresh B v) {p : Addr} (hp : p.block < B) (u : Value) : TiksV (w.setCell p u) v L := by
  obtain ⟨o, c, rfl, h1, h2⟩ := h
  refine ⟨o, c, rfl, fun i x hi => ?_, h2⟩
  obtain ⟨b, rfl, a0, a1, a2, a3, a4, a5⟩ := h1 i x hi
  have hB : B ≤ b.block := hf _ rfl
  have hn : p.block < b.block := by omega
  exact ⟨b, rfl, at_set hn a0, at_set' hn a1, at_set' hn a2, at_set' hn a3, at_set' hn a4, at_set' hn a5⟩
theorem TapsV.set {w : World} {B : Nat} {v : Value} {L : List TP} (h : TapsV w v L) (hf : Fresh B v) {p : Addr} (hp : p.block < B) (u : Value) : TapsV (w.setCell p u) v L := by
  obtain ⟨o, c, rfl, h1, h2⟩ := h
  refine ⟨o, c, rfl, fun i x hi => ?_, h2⟩
  obtain ⟨b, rfl, a0, a1, a2, a3, a4⟩ := h1 i x hi
  have hB : B ≤ b.block := hf _ rfl
  have hn : p.block < b.block := by omega
  exact ⟨b, rfl, at_set hn a0, at_set' hn a1, at_set' hn a2, at_set' hn a3, at_set' hn a4⟩
theorem IntsV.set {w : World} {B : Nat} {v : Value} {L : List Int} (h : IntsV w v L) (hf : Fresh B v) {p : Addr} (hp : p.block < B) (u : Value) : IntsV (w.setCell p u) v L := by
  obtain ⟨o, c, rfl, h1, h2⟩ := h
  refine ⟨o, c, rfl, fun i x hi => ?_, h2⟩
  obtain ⟨b, rfl, a0⟩ := h1 i x hi
  have hB : B ≤ b.block := hf _ rfl
  have hn : p.block < b.block := by omega
  exact ⟨b, rfl, at_set hn a0⟩

theorem Fresh.mono {B C : Nat} {v : Value} (h : Fresh B v) (hc : C ≤ B) : Fresh C v := fun k hk => Nat.le_trans hc (h k hk)

theorem TiksAt.take {w : World} {o : Option Addr} {L : List TK} (h : TiksAt w o L) (n : Nat) : TiksAt w o (L.take n) := fun i p hi => by
  rw [List.getElem?_take] at hi
  split at hi
  · exact h i p hi
  · cases hi

theorem add_add' (A : Addr) (n m : Nat) : (A.add n).add m = A.add (n + m) := by
  by_cases h1 : n = 0
  · subst h1; simp [Addr.add]
  · by_cases h2 : m = 0
    · subst h2; simp [Addr.add]
    · simp [Addr.add, h1, h2]
      omega

theorem TiksAt.drop {w : World} {A : Addr} {L : List TK} (h : TiksAt w (some A) L) (n c : Nat) (hc : L.length ≤ c) : TiksAt w (if c = n then some A else some (A.add (n * 6))) (L.drop n) := fun i p hi => by
  rw [List.getElem?_drop] at hi
  have hlt := (List.getElem?_eq_some_iff.1 hi).1
  rw [if_neg (by omega)]
  obtain ⟨b, hb, h6⟩ := h (n + i) p hi
  cases hb
  refine ⟨_, rfl, ?_⟩
  rw [add_add', ← Nat.add_mul]
  exact h6

theorem tiksAt_one {w : World} {b : Nat} {p : TK} (h : Tik6 w ⟨b, 0, none⟩ p) : TiksAt w (some ⟨b, 0, none⟩) [p] := by
  intro i q hq
  match i, hq with
  | 0, hq =>
    simp at hq
    subst hq
    exact ⟨_, rfl, by simpa [Addr.add] using h⟩
  | i + 1, hq => simp at hq

set_option maxHeartbeats 6400000 in
theorem sell_any (T : List TK) (P : List TP) (V : List Int) (i k f t z r : Int) (o1 o2 o3 : Option Addr) (c1 c2 c3 : Nat) (w : World) (hT : TiksAt w o1 T) (hP : TapsAt w o2 P) (hV : IntsAt w o3 V) (hlT : T.length ≤ 9223372036854775807) (hlP : P.length ≤ 9223372036854775807) (hlV : V.length ≤ 9223372036854775807)
    (hc1 : T.length ≤ c1) (hc2 : P.length ≤ c2) (hc3 : V.length ≤ c3) (hn1 : o1 = none → c1 = 0) :
    Calls Try.prog 18 #[lg o1 o2 o3 T.length c1 P.length c2 V.length c3, tk i k f t z r] w fun e w' =>
      (∃ v, e = .returned (.tuple #[v, .int .i64 (sellE T P V ⟨i, k, f, t, z, r⟩)]) ∧ LedV w' v (if sellE T P V ⟨i, k, f, t, z, r⟩ = 0 then soldT T ⟨i, k, f, t, z, r⟩ else []) (if sellE T P V ⟨i, k, f, t, z, r⟩ = 0 then P else []) (if sellE T P V ⟨i, k, f, t, z, r⟩ = 0 then V else [])) ∧ Below w.heap.size w w' := by
  have HC := hide (fun W (h : TiksAt W o1 T) (h' : TapsAt W o2 P) (h'' : IntsAt W o3 V) => checkLed_any T P V o1 o2 o3 c1 c2 c3 W h h' h'' hlT hlP hlV hc2 hc3)
  have HPl := hide (fun (h0 : chkL T P V = 0) W (h : TiksAt W o1 T) => place_any T i o1 o2 o3 c1 P.length c2 V.length c3 W h (chkL_right h0).1 (rising_of (chkL_right h0).2.2.2.1))
  have HK := hide (fun W => check_any i k f t z r W)
  have hlens0 : chkL T P V = 0 → T.length ≤ 12 ∧ P.length ≤ 60 ∧ V.length ≤ 60 := fun h => by have := chkL_right h; omega
  have hpos : posT T i ≤ T.length := by unfold posT; exact List.findIdx_le_length
  have HT := hide hT
  have HP := hide hP
  have HV := hide hV
  clear hT hP hV hlT hlP hlV
  generalize hE : sellE T P V ⟨i, k, f, t, z, r⟩ = E
  unfold sellE at hE
  rw [show chkK ⟨i, k, f, t, z, r⟩ = chk i k f t z r from rfl] at hE
  simp only [] at hE
  unfold soldT
  simp only []
  generalize chkL T P V = X at *
  generalize chk i k f t z r = Y at *
  generalize hasT T i = hs at *
  generalize posT T i = pos at *
  have hc : ((X != 0) = true ∧ E = X) ∨ (X = 0 ∧ (Y != 0) = true ∧ E = Y) ∨ (X = 0 ∧ Y = 0 ∧ hs = true ∧ E = 6) ∨ (X = 0 ∧ Y = 0 ∧ hs = false ∧ ((T.length : Int) == 12) = true ∧ E = 2) ∨ (X = 0 ∧ Y = 0 ∧ hs = false ∧ ((T.length : Int) == 12) = false ∧ E = 0) := by
    rw [← hE]
    by_cases h1 : X = 0
    · by_cases h2 : Y = 0
      · cases hs
        · by_cases h4 : T.length = 12
          · simp [firstE, h1, h2, h4]
          · have : ¬ (T.length : Int) = 12 := by omega
            simp [firstE, h1, h2, h4, this]
        · simp [firstE, h1, h2]
      · simp [firstE, h1, h2]
    · simp [firstE, h1]
  clear hE
  rcases hc with ⟨h1, rfl⟩ | ⟨rfl, h2, rfl⟩ | ⟨rfl, rfl, rfl, rfl⟩ | ⟨rfl, rfl, rfl, h4, rfl⟩ | ⟨rfl, rfl, rfl, h4, rfl⟩
  all_goals try (have hE : ¬ E = 0 := by first | (simpa using h1) | (simpa using h2)
                 rw [if_neg hE, if_neg hE, if_neg hE])
  all_goals
    go_enter Try.func18, Try.ntmps18
    go_wp2_with fail
    refine (HC.out _ (HT.out.below ?_) (HP.out.below ?_) (HV.out.below ?_)).mono ?_
    · repeat (first | with_reducible exact Below.refl _ _ | with_reducible refine Below.alloc ?_ (by simp; try omega) _)
    · repeat (first | with_reducible exact Below.refl _ _ | with_reducible refine Below.alloc ?_ (by simp; try omega) _)
    · repeat (first | with_reducible exact Below.refl _ _ | with_reducible refine Below.alloc ?_ (by simp; try omega) _)
    rintro e w1 ⟨rfl, hb1⟩
    have HB1 := hide (boxesS_of _ _ _ _ _ _ _ _ _ _ _ _ _ _ _ _ _ hb1)
    clear hb1
  · have hE : ¬ E = 0 := by simpa using h1
    obtain ⟨⟨x0, x1, x2⟩, ⟨y0, y1, y2, y3, y4, y5⟩, hrow, -, -⟩ := HB1.out
    simp only [Nat.zero_add] at y0 y1 y2 y3 y4 y5
    have r0 := cell_of_row _ _ 0 _ _ _ hrow
    have r1 := cell_of_row _ _ 1 _ _ _ hrow
    have r2 := cell_of_row _ _ 2 _ _ _ hrow
    have s0 := frozen_of_row _ _ 0 _ _ hrow
    have s1 := frozen_of_row _ _ 1 _ _ hrow
    have s2 := frozen_of_row _ _ 2 _ _ hrow
    simp at r0 r1 r2
    clear hrow
    go_wp2_with fail
    refine bodyPost_ret (v := .tuple #[lg none none none 0 0 0 0 0 0, .int .i64 E]) (by simp [results, Try.results18, go_sem, *]) rfl ⟨⟨_, rfl, ?_⟩, ?_⟩
    · first | exact ledV_none _ | (rw [if_neg hE, if_neg hE, if_neg hE]; exact ledV_none _)
    · repeat (first | with_reducible refine Below.setCell ?_ (by simp; try omega) _ | exact HB1.out.2.2.2.2)
  · have hE : ¬ E = 0 := by simpa using h2
    obtain ⟨⟨x0, x1, x2⟩, ⟨y0, y1, y2, y3, y4, y5⟩, hrow, -, -⟩ := HB1.out
    simp only [Nat.zero_add] at y0 y1 y2 y3 y4 y5
    have r0 := cell_of_row _ _ 0 _ _ _ hrow
    have r1 := cell_of_row _ _ 1 _ _ _ hrow
    have r2 := cell_of_row _ _ 2 _ _ _ hrow
    have s0 := frozen_of_row _ _ 0 _ _ hrow
    have s1 := frozen_of_row _ _ 1 _ _ hrow
    have s2 := frozen_of_row _ _ 2 _ _ hrow
    simp at r0 r1 r2
    clear hrow
    go_wp2_with fail
    refine (HK.out _).mono ?_
    rintro e w2 ⟨rfl, hb2⟩
    have HB2 := hide (HB1.out.on hb2)
    clear hb2 HB1 x0 x1 x2 y0 y1 y2 y3 y4 y5 r0 r1 r2 s0 s1 s2
    obtain ⟨⟨x0, x1, x2⟩, ⟨y0, y1, y2, y3, y4, y5⟩, hrow, -, -⟩ := HB2.out
    simp only [Nat.zero_add] at y0 y1 y2 y3 y4 y5
    have r0 := cell_of_row _ _ 0 _ _ _ hrow
    have r1 := cell_of_row _ _ 1 _ _ _ hrow
    have r2 := cell_of_row _ _ 2 _ _ _ hrow
    have s0 := frozen_of_row _ _ 0 _ _ hrow
    have s1 := frozen_of_row _ _ 1 _ _ hrow
    have s2 := frozen_of_row _ _ 2 _ _ hrow
    simp at r0 r1 r2
    clear hrow
    go_wp2_with fail
    refine bodyPost_ret (v := .tuple #[lg none none none 0 0 0 0 0 0, .int .i64 E]) (by simp [results, Try.results18, go_sem, *]) rfl ⟨⟨_, rfl, ?_⟩, ?_⟩
    · first | exact ledV_none _ | (rw [if_neg hE, if_neg hE, if_neg hE]; exact ledV_none _)
    · repeat (first | with_reducible refine Below.setCell ?_ (by simp; try omega) _ | exact HB2.out.2.2.2.2)
  · have hE : ¬ (6 : Int) = 0 := by decide
    obtain ⟨⟨x0, x1, x2⟩, ⟨y0, y1, y2, y3, y4, y5⟩, hrow, -, -⟩ := HB1.out
    simp only [Nat.zero_add] at y0 y1 y2 y3 y4 y5
    have r0 := cell_of_row _ _ 0 _ _ _ hrow
    have r1 := cell_of_row _ _ 1 _ _ _ hrow
    have r2 := cell_of_row _ _ 2 _ _ _ hrow
    have s0 := frozen_of_row _ _ 0 _ _ hrow
    have s1 := frozen_of_row _ _ 1 _ _ hrow
    have s2 := frozen_of_row _ _ 2 _ _ hrow
    simp at r0 r1 r2
    clear hrow
    go_wp2_with fail
    refine (HK.out _).mono ?_
    rintro e w2 ⟨rfl, hb2⟩
    have HB2 := hide (HB1.out.on hb2)
    clear hb2 HB1 x0 x1 x2 y0 y1 y2 y3 y4 y5 r0 r1 r2 s0 s1 s2
    obtain ⟨⟨x0, x1, x2⟩, ⟨y0, y1, y2, y3, y4, y5⟩, hrow, -, -⟩ := HB2.out
    simp only [Nat.zero_add] at y0 y1 y2 y3 y4 y5
    have r0 := cell_of_row _ _ 0 _ _ _ hrow
    have r1 := cell_of_row _ _ 1 _ _ _ hrow
    have r2 := cell_of_row _ _ 2 _ _ _ hrow
    have s0 := frozen_of_row _ _ 0 _ _ hrow
    have s1 := frozen_of_row _ _ 1 _ _ hrow
    have s2 := frozen_of_row _ _ 2 _ _ hrow
    simp at r0 r1 r2
    clear hrow
    go_wp2_with fail
    refine (HPl.out trivial _ (HT.out.below HB2.out.2.2.2.2)).mono ?_
    rintro e w3 ⟨rfl, hb3⟩
    have HB3 := hide (HB2.out.on hb3)
    clear hb3 HB2 x0 x1 x2 y0 y1 y2 y3 y4 y5 r0 r1 r2 s0 s1 s2
    obtain ⟨⟨x0, x1, x2⟩, ⟨y0, y1, y2, y3, y4, y5⟩, hrow, -, -⟩ := HB3.out
    simp only [Nat.zero_add] at y0 y1 y2 y3 y4 y5
    have r0 := cell_of_row _ _ 0 _ _ _ hrow
    have r1 := cell_of_row _ _ 1 _ _ _ hrow
    have r2 := cell_of_row _ _ 2 _ _ _ hrow
    have s0 := frozen_of_row _ _ 0 _ _ hrow
    have s1 := frozen_of_row _ _ 1 _ _ hrow
    have s2 := frozen_of_row _ _ 2 _ _ hrow
    simp at r0 r1 r2
    clear hrow
    go_wp2_with fail
    refine bodyPost_ret (v := .tuple #[lg none none none 0 0 0 0 0 0, .int .i64 6]) (by simp [results, Try.results18, go_sem, *]) rfl ⟨⟨_, rfl, ?_⟩, ?_⟩
    · first | exact ledV_none _ | (rw [if_neg hE, if_neg hE, if_neg hE]; exact ledV_none _)
    · repeat (first | with_reducible refine Below.setCell ?_ (by simp; try omega) _ | exact HB3.out.2.2.2.2)
  · have hE : ¬ (2 : Int) = 0 := by decide
    obtain ⟨⟨x0, x1, x2⟩, ⟨y0, y1, y2, y3, y4, y5⟩, hrow, -, -⟩ := HB1.out
    simp only [Nat.zero_add] at y0 y1 y2 y3 y4 y5
    have r0 := cell_of_row _ _ 0 _ _ _ hrow
    have r1 := cell_of_row _ _ 1 _ _ _ hrow
    have r2 := cell_of_row _ _ 2 _ _ _ hrow
    have s0 := frozen_of_row _ _ 0 _ _ hrow
    have s1 := frozen_of_row _ _ 1 _ _ hrow
    have s2 := frozen_of_row _ _ 2 _ _ hrow
    simp at r0 r1 r2
    clear hrow
    go_wp2_with fail
    refine (HK.out _).mono ?_
    rintro e w2 ⟨rfl, hb2⟩
    have HB2 := hide (HB1.out.on hb2)
    clear hb2 HB1 x0 x1 x2 y0 y1 y2 y3 y4 y5 r0 r1 r2 s0 s1 s2
    obtain ⟨⟨x0, x1, x2⟩, ⟨y0, y1, y2, y3, y4, y5⟩, hrow, -, -⟩ := HB2.out
    simp only [Nat.zero_add] at y0 y1 y2 y3 y4 y5
    have r0 := cell_of_row _ _ 0 _ _ _ hrow
    have r1 := cell_of_row _ _ 1 _ _ _ hrow
    have r2 := cell_of_row _ _ 2 _ _ _ hrow
    have s0 := frozen_of_row _ _ 0 _ _ hrow
    have s1 := frozen_of_row _ _ 1 _ _ hrow
    have s2 := frozen_of_row _ _ 2 _ _ hrow
    simp at r0 r1 r2
    clear hrow
    go_wp2_with fail
    refine (HPl.out trivial _ (HT.out.below HB2.out.2.2.2.2)).mono ?_
    rintro e w3 ⟨rfl, hb3⟩
    have HB3 := hide (HB2.out.on hb3)
    clear hb3 HB2 x0 x1 x2 y0 y1 y2 y3 y4 y5 r0 r1 r2 s0 s1 s2
    obtain ⟨⟨x0, x1, x2⟩, ⟨y0, y1, y2, y3, y4, y5⟩, hrow, -, -⟩ := HB3.out
    simp only [Nat.zero_add] at y0 y1 y2 y3 y4 y5
    have r0 := cell_of_row _ _ 0 _ _ _ hrow
    have r1 := cell_of_row _ _ 1 _ _ _ hrow
    have r2 := cell_of_row _ _ 2 _ _ _ hrow
    have s0 := frozen_of_row _ _ 0 _ _ hrow
    have s1 := frozen_of_row _ _ 1 _ _ hrow
    have s2 := frozen_of_row _ _ 2 _ _ hrow
    simp at r0 r1 r2
    clear hrow
    go_wp2_with fail
    refine bodyPost_ret (v := .tuple #[lg none none none 0 0 0 0 0 0, .int .i64 2]) (by simp [results, Try.results18, go_sem, *]) rfl ⟨⟨_, rfl, ?_⟩, ?_⟩
    · first | exact ledV_none _ | (rw [if_neg hE, if_neg hE, if_neg hE]; exact ledV_none _)
    · repeat (first | with_reducible refine Below.setCell ?_ (by simp; try omega) _ | exact HB3.out.2.2.2.2)
  · obtain ⟨⟨x0, x1, x2⟩, ⟨y0, y1, y2, y3, y4, y5⟩, -, -, -⟩ := HB1.out
    simp only [Nat.zero_add] at y0 y1 y2 y3 y4 y5
    go_wp2_with fail
    refine (HK.out _).mono ?_
    rintro e w2 ⟨rfl, hb2⟩
    have HB2 := hide (HB1.out.on hb2)
    clear hb2 HB1 x0 x1 x2 y0 y1 y2 y3 y4 y5
    obtain ⟨⟨x0, x1, x2⟩, ⟨y0, y1, y2, y3, y4, y5⟩, -, -, -⟩ := HB2.out
    simp only [Nat.zero_add] at y0 y1 y2 y3 y4 y5
    go_wp2_with fail
    refine (HPl.out trivial _ (HT.out.below HB2.out.2.2.2.2)).mono ?_
    rintro e w3 ⟨rfl, hb3⟩
    have HB3 := hide (HB2.out.on hb3)
    clear hb3 HB2 x0 x1 x2 y0 y1 y2 y3 y4 y5
    obtain ⟨⟨x0, x1, x2⟩, ⟨y0, y1, y2, y3, y4, y5⟩, -, -, -⟩ := HB3.out
    simp only [Nat.zero_add] at y0 y1 y2 y3 y4 y5
    go_wp2_with fail
    have hlens := hlens0 trivial
    have hposc : pos ≤ c1 := by omega
    clear x0 x1 x2 y0 y1 y2 y3 y4 y5 hlens0 HC HPl HK
    cases o1 with
    | none =>
      have hT0 : T = [] := by
        cases T with
        | nil => rfl
        | cons x T => obtain ⟨b, hb, -⟩ := HT.out 0 x rfl; cases hb
      subst hT0
      obtain rfl : c1 = 0 := hn1 rfl
      obtain rfl : pos = 0 := by simpa using hpos
      simp only [List.length_nil] at HB3 hlens ⊢
      refine wp_region_reads (fun w' => KeptS w w' none o2 o3 0 0 P.length c2 V.length c3 ⟨i, k, f, t, z, r⟩) [0, 1, 2, 3, 4, 6, 7, 8, 9, 12, 13, 15, 16] 8 (by rfl) (by kernel_rfl) (by kernel_rfl) (by kernel_rfl) (fun c d v a w h => by cases d <;> exact h) ?_ ?_
      · exact (HB3.out.on (Below.refl _ _).drew).kept
      refine wpPureH_step (.pointer (some ⟨w.heap.size, 0, none⟩)) rfl rfl (fun w' hS => ?_) ?_
      · obtain ⟨⟨x0, x1, x2⟩, ⟨y0, y1, y2, y3, y4, y5⟩, -, -⟩ := hS
        simp only [Nat.zero_add] at y0 y1 y2 y3 y4 y5
        go_simp
        try (intro h; omega)
      refine wpPureH_step (.slice none 0 0) rfl rfl (fun w' hS => ?_) ?_
      · obtain ⟨⟨x0, x1, x2⟩, ⟨y0, y1, y2, y3, y4, y5⟩, -, -⟩ := hS
        simp only [Nat.zero_add] at y0 y1 y2 y3 y4 y5
        go_simp
        try (intro h; omega)
      refine wpPureH_step (.int .i64 0) rfl rfl (fun w' hS => ?_) ?_
      · obtain ⟨⟨x0, x1, x2⟩, ⟨y0, y1, y2, y3, y4, y5⟩, -, -⟩ := hS
        simp only [Nat.zero_add] at y0 y1 y2 y3 y4 y5
        go_simp
        try (intro h; omega)
      refine wpPureH_step (.slice none 0 0) rfl rfl (fun w' hS => ?_) ?_
      · obtain ⟨⟨x0, x1, x2⟩, ⟨y0, y1, y2, y3, y4, y5⟩, -, -⟩ := hS
        simp only [Nat.zero_add] at y0 y1 y2 y3 y4 y5
        go_simp
        try (intro h; omega)
      refine wpPureH_step (tk i k f t z r) rfl rfl (fun w' hS => ?_) ?_
      · obtain ⟨⟨x0, x1, x2⟩, ⟨y0, y1, y2, y3, y4, y5⟩, -, -⟩ := hS
        simp only [Nat.zero_add] at y0 y1 y2 y3 y4 y5
        go_simp
        try (intro h; omega)
      refine wpPureH_step (.pointer (some ⟨w.heap.size, 0, none⟩)) rfl rfl (fun w' hS => ?_) ?_
      · obtain ⟨⟨x0, x1, x2⟩, ⟨y0, y1, y2, y3, y4, y5⟩, -, -⟩ := hS
        simp only [Nat.zero_add] at y0 y1 y2 y3 y4 y5
        go_simp
        try (intro h; omega)
      refine wpPureH_step (.slice none 0 0) rfl rfl (fun w' hS => ?_) ?_
      · obtain ⟨⟨x0, x1, x2⟩, ⟨y0, y1, y2, y3, y4, y5⟩, -, -⟩ := hS
        simp only [Nat.zero_add] at y0 y1 y2 y3 y4 y5
        go_simp
        try (intro h; omega)
      refine wpPureH_step (.int .i64 0) rfl rfl (fun w' hS => ?_) ?_
      · obtain ⟨⟨x0, x1, x2⟩, ⟨y0, y1, y2, y3, y4, y5⟩, -, -⟩ := hS
        simp only [Nat.zero_add] at y0 y1 y2 y3 y4 y5
        go_simp
        try (intro h; omega)
      refine wpPureH_step (.slice none 0 0) rfl rfl (fun w' hS => ?_) ?_
      · obtain ⟨⟨x0, x1, x2⟩, ⟨y0, y1, y2, y3, y4, y5⟩, -, -⟩ := hS
        simp only [Nat.zero_add] at y0 y1 y2 y3 y4 y5
        go_simp
        try (intro h; omega)
      refine wpPureH_step (.pointer (some ⟨w.heap.size, 1, none⟩)) rfl rfl (fun w' hS => ?_) ?_
      · obtain ⟨⟨x0, x1, x2⟩, ⟨y0, y1, y2, y3, y4, y5⟩, -, -⟩ := hS
        simp only [Nat.zero_add] at y0 y1 y2 y3 y4 y5
        go_simp
        try (intro h; omega)
      refine wpPureH_step (.slice o2 P.length c2) rfl rfl (fun w' hS => ?_) ?_
      · obtain ⟨⟨x0, x1, x2⟩, ⟨y0, y1, y2, y3, y4, y5⟩, -, -⟩ := hS
        simp only [Nat.zero_add] at y0 y1 y2 y3 y4 y5
        go_simp
        try (intro h; omega)
      refine wpPureH_step (.pointer (some ⟨w.heap.size, 2, none⟩)) rfl rfl (fun w' hS => ?_) ?_
      · obtain ⟨⟨x0, x1, x2⟩, ⟨y0, y1, y2, y3, y4, y5⟩, -, -⟩ := hS
        simp only [Nat.zero_add] at y0 y1 y2 y3 y4 y5
        go_simp
        try (intro h; omega)
      refine wpPureH_step (.slice o3 V.length c3) rfl rfl (fun w' hS => ?_) ?_
      · obtain ⟨⟨x0, x1, x2⟩, ⟨y0, y1, y2, y3, y4, y5⟩, -, -⟩ := hS
        simp only [Nat.zero_add] at y0 y1 y2 y3 y4 y5
        go_simp
        try (intro h; omega)
      refine wpPureH_nil ?_
      have HBa := hide (HB3.out.on ((Below.refl w3.heap.size w3).drew))
      clear HB3
      generalize w3.drew = wa at *
      refine one_readyH (i := 5) (by kernel_rfl) rfl rfl (fun K hK => ?_)
      go_simp
      have HBb := hide (HBa.out.on ((Below.refl wa.heap.size wa).alloc (Nat.le_refl _) (cK i k f t z r 23)))
      have HKb : Hid (Tik6 (wa.alloc (cK i k f t z r 23)) ⟨wa.heap.size, 0, none⟩ ⟨i, k, f, t, z, r⟩) := hide ⟨by simp [go_sem], by simp [go_sem], by simp [go_sem], by simp [go_sem], by simp [go_sem], by simp [go_sem]⟩
      refine hK _ _ HBb.out.kept ?_
      clear hK K HBa
      generalize hwb : wa.alloc (cK i k f t z r 23) = wb at *
      refine one_readyH (i := 10) (by kernel_rfl) rfl rfl (fun K hK => ?_)
      go_simp
      have hbw := (Below.refl wb.heap.size wb).alloc (Nat.le_refl _) (.cells #[.slice none 0 0, .slice (some ⟨wa.heap.size, 0, none⟩) 1 1, .slice none 0 0] 40)
      have HBc := hide (HBb.out.on hbw)
      have HPc : Hid (PiecesK (wb.alloc (.cells #[.slice none 0 0, .slice (some ⟨wa.heap.size, 0, none⟩) 1 1, .slice none 0 0] 40)) ⟨wb.heap.size, 0, none⟩
          [(none, [], 0), (some ⟨wa.heap.size, 0, none⟩, [⟨i, k, f, t, z, r⟩], 1), (none, [], 0)]) := by
        have hT6 := HKb.out.below hbw HKb.out.lt
        intro q o L cap hq
        match q, hq with
        | 0, hq =>
          simp at hq
          obtain ⟨rfl, rfl, rfl⟩ := hq
          exact ⟨by simp [Addr.add, go_sem], fun i p h => by simp at h, fun _ => rfl⟩
        | 1, hq =>
          simp at hq
          obtain ⟨rfl, rfl, rfl⟩ := hq
          exact ⟨by simp [Addr.add, go_sem], tiksAt_one hT6, fun h => by cases h⟩
        | 2, hq =>
          simp at hq
          obtain ⟨rfl, rfl, rfl⟩ := hq
          exact ⟨by simp [Addr.add, go_sem], fun i p h => by simp at h, fun _ => rfl⟩
        | q + 3, hq => simp at hq
      refine hK _ _ HBc.out.kept ?_
      clear hK K HBb HKb hbw
      generalize wb.alloc (.cells #[.slice none 0 0, .slice (some ⟨wa.heap.size, 0, none⟩) 1 1, .slice none 0 0] 40) = wc at *
      refine one_readyH (i := 11) (by kernel_rfl) rfl rfl (fun K hK => ?_)
      go_simp
      refine (concatK_any _ _ 3 wc HPc.out (by simp) (by simp [lenS])).mono ?_
      rintro e wd ⟨⟨v1, rfl, hv1, hf1⟩, hbd⟩
      replace hv1 : TiksV wd v1 [(⟨i, k, f, t, z, r⟩ : TK)] := by simpa using hv1
      generalize hM : [(⟨i, k, f, t, z, r⟩ : TK)] = M at hv1
      have HM := hide hM
      clear hM
      obtain ⟨oa, ca, rfl, ha⟩ := hv1
      have hv1 : TiksV wd (.slice oa M.length ca) M := ⟨oa, ca, rfl, ha⟩
      clear ha
      have HBd := hide (HBc.out.on hbd)
      have hsz := HBc.out.2.2.2.1
      have HV1 := hide (And.intro hv1 (hf1.mono (show w.heap.size + 1 + 1 + 1 ≤ wc.heap.size by omega)))
      clear hv1 hf1 hbd HPc HBc hsz
      refine hK _ _ HBd.out.kept ?_
      clear hK K
      refine one_readyH (i := 14) (by kernel_rfl) rfl rfl (fun K hK => ?_)
      go_simp
      refine (cloneP_any P o2 c2 wd (HP.out.below HBd.out.2.2.2.2) (by omega)).mono ?_
      rintro e we ⟨⟨v2, rfl, ⟨ob, cb, rfl, hb⟩, hf2⟩, hbe⟩
      have hv2 : TapsV we (.slice ob P.length cb) P := ⟨ob, cb, rfl, hb⟩
      clear hb
      have HBe := hide (HBd.out.on hbe)
      have HV1e := hide (And.intro (HV1.out.1.below hbe) HV1.out.2)
      have hsz := HBd.out.2.2.2.1
      have HV2 := hide (And.intro hv2 (hf2.mono (show w.heap.size + 1 + 1 + 1 ≤ wd.heap.size by omega)))
      clear hv2 hf2 hbe HBd hsz HV1
      refine hK _ _ HBe.out.kept ?_
      clear hK K
      refine one_readyH (i := 17) (by kernel_rfl) rfl rfl (fun K hK => ?_)
      go_simp
      refine (cloneV_any V o3 c3 we (HV.out.below HBe.out.2.2.2.2) (by omega)).mono ?_
      rintro e wf ⟨⟨v3, rfl, ⟨oc, cc, rfl, hc⟩, hf3⟩, hbf⟩
      have hv3 : IntsV wf (.slice oc V.length cc) V := ⟨oc, cc, rfl, hc⟩
      clear hc
      have HBf := hide (HBe.out.on hbf)
      have HV1f := hide (And.intro (HV1e.out.1.below hbf) HV1e.out.2)
      have HV2f := hide (And.intro (HV2.out.1.below hbf) HV2.out.2)
      have hsz := HBe.out.2.2.2.1
      have HV3 := hide (And.intro hv3 (hf3.mono (show w.heap.size + 1 + 1 + 1 ≤ we.heap.size by omega)))
      clear hv3 hf3 hbf HBe hsz HV1e HV2
      refine hK _ _ HBf.out.kept ?_
      clear hK K
      refine one_readyH (i := 18) (by kernel_rfl) rfl rfl (fun K hK => ?_)
      go_simp
      refine hK _ _ HBf.out.kept ?_
      clear hK K
      have hrow := HBf.out.2.2.1
      have r0 := cell_of_row wf _ 0 _ _ _ hrow
      have r1 := cell_of_row wf _ 1 _ _ _ hrow
      have r2 := cell_of_row wf _ 2 _ _ _ hrow
      have s0 := frozen_of_row wf _ 0 _ _ hrow
      have s1 := frozen_of_row wf _ 1 _ _ hrow
      have s2 := frozen_of_row wf _ 2 _ _ hrow
      simp at r0 r1 r2
      clear hrow
      refine one_readyH (i := 19) (by kernel_rfl) rfl rfl (fun K hK => ?_)
      go_simp
      have HKg := hide (((HBf.out.kept.set 0 (.slice oa M.length ca)).set 1 (.slice ob P.length cb)).set 2 (.slice oc V.length cc))
      have HLg : Hid (Led3 (((wf.setCell ⟨w.heap.size + 1 + 1, 0, none⟩ (.slice oa M.length ca)).setCell ⟨w.heap.size + 1 + 1, 1, none⟩ (.slice ob P.length cb)).setCell ⟨w.heap.size + 1 + 1, 2, none⟩ (.slice oc V.length cc)) (w.heap.size + 1 + 1) oa ob oc M.length ca P.length cb V.length cc) := by
        refine hide ⟨?_, ?_, ?_⟩
        all_goals simp [go_sem, r0, r1, r2]
      have HVg : Hid (LedV (((wf.setCell ⟨w.heap.size + 1 + 1, 0, none⟩ (.slice oa M.length ca)).setCell ⟨w.heap.size + 1 + 1, 1, none⟩ (.slice ob P.length cb)).setCell ⟨w.heap.size + 1 + 1, 2, none⟩ (.slice oc V.length cc)) (lg oa ob oc M.length ca P.length cb V.length cc) M P V) := by
        obtain ⟨a1, a2⟩ := HV1f.out
        obtain ⟨b1, b2⟩ := HV2f.out
        obtain ⟨d1, d2⟩ := HV3.out
        exact hide ⟨_, _, _, rfl, ((a1.set a2 (by simp) _).set a2 (by simp) _).set a2 (by simp) _, ((b1.set b2 (by simp) _).set b2 (by simp) _).set b2 (by simp) _, ((d1.set d2 (by simp) _).set d2 (by simp) _).set d2 (by simp) _⟩
      refine hK _ _ HKg.out ?_
      clear hK K HV1f HV2f HV3 HBf r0 r1 r2 s0 s1 s2
      generalize ((wf.setCell ⟨w.heap.size + 1 + 1, 0, none⟩ (.slice oa M.length ca)).setCell ⟨w.heap.size + 1 + 1, 1, none⟩ (.slice ob P.length cb)).setCell ⟨w.heap.size + 1 + 1, 2, none⟩ (.slice oc V.length cc) = wg at *
      refine one_readyH (i := 20) (by kernel_rfl) rfl rfl (fun K hK => ?_)
      go_simp
      refine hK _ _ HKg.out ?_
      clear hK K
      refine wpAnyH_done (by kernel_rfl) ?_ _
      obtain ⟨g0, g1, g2⟩ := HLg.out
      go_wp2_with fail
      refine bodyPost_ret (v := .tuple #[lg oa ob oc M.length ca P.length cb V.length cc, .int .i64 0]) (by simp [results, Try.results18, go_sem, g0, g1, g2]) rfl ⟨⟨_, rfl, ?_⟩, HKg.out.2.2.2⟩
      try simp only [List.take_nil, List.drop_nil, List.nil_append]
      rw [show [(⟨i, k, f, t, z, r⟩ : TK)] = M from HM.out]
      exact HVg.out
    | some A =>
      refine wp_region_reads (fun w' => KeptS w w' (some A) o2 o3 T.length c1 P.length c2 V.length c3 ⟨i, k, f, t, z, r⟩) [0, 1, 2, 3, 4, 6, 7, 8, 9, 12, 13, 15, 16] 8 (by rfl) (by kernel_rfl) (by kernel_rfl) (by kernel_rfl) (fun c d v a w h => by cases d <;> exact h) ?_ ?_
      · exact (HB3.out.on (Below.refl _ _).drew).kept
      refine wpPureH_step (.pointer (some ⟨w.heap.size, 0, none⟩)) rfl rfl (fun w' hS => ?_) ?_
      · obtain ⟨⟨x0, x1, x2⟩, ⟨y0, y1, y2, y3, y4, y5⟩, -, -⟩ := hS
        simp only [Nat.zero_add] at y0 y1 y2 y3 y4 y5
        go_simp
        try (intro h; omega)
      refine wpPureH_step (.slice (some A) T.length c1) rfl rfl (fun w' hS => ?_) ?_
      · obtain ⟨⟨x0, x1, x2⟩, ⟨y0, y1, y2, y3, y4, y5⟩, -, -⟩ := hS
        simp only [Nat.zero_add] at y0 y1 y2 y3 y4 y5
        go_simp
        try (intro h; omega)
      refine wpPureH_step (.int .i64 (pos : Int)) rfl rfl (fun w' hS => ?_) ?_
      · obtain ⟨⟨x0, x1, x2⟩, ⟨y0, y1, y2, y3, y4, y5⟩, -, -⟩ := hS
        simp only [Nat.zero_add] at y0 y1 y2 y3 y4 y5
        go_simp
        try (intro h; omega)
      refine wpPureH_step (.slice (some A) pos c1) rfl rfl (fun w' hS => ?_) ?_
      · obtain ⟨⟨x0, x1, x2⟩, ⟨y0, y1, y2, y3, y4, y5⟩, -, -⟩ := hS
        simp only [Nat.zero_add] at y0 y1 y2 y3 y4 y5
        go_simp
        try (intro h; omega)
      refine wpPureH_step (tk i k f t z r) rfl rfl (fun w' hS => ?_) ?_
      · obtain ⟨⟨x0, x1, x2⟩, ⟨y0, y1, y2, y3, y4, y5⟩, -, -⟩ := hS
        simp only [Nat.zero_add] at y0 y1 y2 y3 y4 y5
        go_simp
        try (intro h; omega)
      refine wpPureH_step (.pointer (some ⟨w.heap.size, 0, none⟩)) rfl rfl (fun w' hS => ?_) ?_
      · obtain ⟨⟨x0, x1, x2⟩, ⟨y0, y1, y2, y3, y4, y5⟩, -, -⟩ := hS
        simp only [Nat.zero_add] at y0 y1 y2 y3 y4 y5
        go_simp
        try (intro h; omega)
      refine wpPureH_step (.slice (some A) T.length c1) rfl rfl (fun w' hS => ?_) ?_
      · obtain ⟨⟨x0, x1, x2⟩, ⟨y0, y1, y2, y3, y4, y5⟩, -, -⟩ := hS
        simp only [Nat.zero_add] at y0 y1 y2 y3 y4 y5
        go_simp
        try (intro h; omega)
      refine wpPureH_step (.int .i64 (pos : Int)) rfl rfl (fun w' hS => ?_) ?_
      · obtain ⟨⟨x0, x1, x2⟩, ⟨y0, y1, y2, y3, y4, y5⟩, -, -⟩ := hS
        simp only [Nat.zero_add] at y0 y1 y2 y3 y4 y5
        go_simp
        try (intro h; omega)
      refine wpPureH_step (.slice (if c1 = pos then some A else some (A.add (pos * 6))) (T.length - pos) (c1 - pos)) rfl rfl (fun w' hS => ?_) ?_
      · obtain ⟨⟨x0, x1, x2⟩, ⟨y0, y1, y2, y3, y4, y5⟩, -, -⟩ := hS
        simp only [Nat.zero_add] at y0 y1 y2 y3 y4 y5
        go_simp
        try (intro h; omega)
      refine wpPureH_step (.pointer (some ⟨w.heap.size, 1, none⟩)) rfl rfl (fun w' hS => ?_) ?_
      · obtain ⟨⟨x0, x1, x2⟩, ⟨y0, y1, y2, y3, y4, y5⟩, -, -⟩ := hS
        simp only [Nat.zero_add] at y0 y1 y2 y3 y4 y5
        go_simp
        try (intro h; omega)
      refine wpPureH_step (.slice o2 P.length c2) rfl rfl (fun w' hS => ?_) ?_
      · obtain ⟨⟨x0, x1, x2⟩, ⟨y0, y1, y2, y3, y4, y5⟩, -, -⟩ := hS
        simp only [Nat.zero_add] at y0 y1 y2 y3 y4 y5
        go_simp
        try (intro h; omega)
      refine wpPureH_step (.pointer (some ⟨w.heap.size, 2, none⟩)) rfl rfl (fun w' hS => ?_) ?_
      · obtain ⟨⟨x0, x1, x2⟩, ⟨y0, y1, y2, y3, y4, y5⟩, -, -⟩ := hS
        simp only [Nat.zero_add] at y0 y1 y2 y3 y4 y5
        go_simp
        try (intro h; omega)
      refine wpPureH_step (.slice o3 V.length c3) rfl rfl (fun w' hS => ?_) ?_
      · obtain ⟨⟨x0, x1, x2⟩, ⟨y0, y1, y2, y3, y4, y5⟩, -, -⟩ := hS
        simp only [Nat.zero_add] at y0 y1 y2 y3 y4 y5
        go_simp
        try (intro h; omega)
      refine wpPureH_nil ?_
      have HD := hide (fun W (h : TiksAt W (some A) T) => h.drop pos c1 hc1)
      have HDn : Hid ((if c1 = pos then some A else some (A.add (pos * 6))) = none → c1 - pos = 0) := hide (fun h => by split at h <;> cases h)
      generalize (if c1 = pos then some A else some (A.add (pos * 6))) = oD at HD HDn ⊢
      have HBa := hide (HB3.out.on ((Below.refl w3.heap.size w3).drew))
      clear HB3
      generalize w3.drew = wa at *
      refine one_readyH (i := 5) (by kernel_rfl) rfl rfl (fun K hK => ?_)
      go_simp
      have HBb := hide (HBa.out.on ((Below.refl wa.heap.size wa).alloc (Nat.le_refl _) (cK i k f t z r 23)))
      have HKb : Hid (Tik6 (wa.alloc (cK i k f t z r 23)) ⟨wa.heap.size, 0, none⟩ ⟨i, k, f, t, z, r⟩) := hide ⟨by simp [go_sem], by simp [go_sem], by simp [go_sem], by simp [go_sem], by simp [go_sem], by simp [go_sem]⟩
      refine hK _ _ HBb.out.kept ?_
      clear hK K HBa
      generalize hwb : wa.alloc (cK i k f t z r 23) = wb at *
      refine one_readyH (i := 10) (by kernel_rfl) rfl rfl (fun K hK => ?_)
      go_simp
      have hbw := (Below.refl wb.heap.size wb).alloc (Nat.le_refl _) (.cells #[.slice (some A) pos c1, .slice (some ⟨wa.heap.size, 0, none⟩) 1 1, .slice oD (T.length - pos) (c1 - pos)] 40)
      have HBc := hide (HBb.out.on hbw)
      have HPc : Hid (PiecesK (wb.alloc (.cells #[.slice (some A) pos c1, .slice (some ⟨wa.heap.size, 0, none⟩) 1 1, .slice oD (T.length - pos) (c1 - pos)] 40)) ⟨wb.heap.size, 0, none⟩
          [(some A, T.take pos, c1), (some ⟨wa.heap.size, 0, none⟩, [⟨i, k, f, t, z, r⟩], 1), (oD, T.drop pos, c1 - pos)]) := by
        have hTw := HT.out.below HBc.out.2.2.2.2
        have hT6 := HKb.out.below hbw HKb.out.lt
        intro q o L cap hq
        match q, hq with
        | 0, hq =>
          simp at hq
          obtain ⟨rfl, rfl, rfl⟩ := hq
          refine ⟨?_, hTw.take pos, fun h => by cases h⟩
          rw [List.length_take, Nat.min_eq_left hpos]
          simp [Addr.add, go_sem]
        | 1, hq =>
          simp at hq
          obtain ⟨rfl, rfl, rfl⟩ := hq
          exact ⟨by simp [Addr.add, go_sem], tiksAt_one hT6, fun h => by cases h⟩
        | 2, hq =>
          simp at hq
          obtain ⟨rfl, rfl, rfl⟩ := hq
          refine ⟨?_, HD.out _ hTw, HDn.out⟩
          rw [List.length_drop]
          simp [Addr.add, go_sem]
        | q + 3, hq => simp at hq
      refine hK _ _ HBc.out.kept ?_
      clear hK K HBb HKb hbw
      generalize wb.alloc (.cells #[.slice (some A) pos c1, .slice (some ⟨wa.heap.size, 0, none⟩) 1 1, .slice oD (T.length - pos) (c1 - pos)] 40) = wc at *
      refine one_readyH (i := 11) (by kernel_rfl) rfl rfl (fun K hK => ?_)
      go_simp
      refine (concatK_any _ _ 3 wc HPc.out (by simp) (by simp [lenS]; omega)).mono ?_
      rintro e wd ⟨⟨v1, rfl, hv1, hf1⟩, hbd⟩
      replace hv1 : TiksV wd v1 (T.take pos ++ [⟨i, k, f, t, z, r⟩] ++ T.drop pos) := by simpa using hv1
      generalize hM : T.take pos ++ [⟨i, k, f, t, z, r⟩] ++ T.drop pos = M at hv1
      have HM := hide hM
      clear hM
      obtain ⟨oa, ca, rfl, ha⟩ := hv1
      have hv1 : TiksV wd (.slice oa M.length ca) M := ⟨oa, ca, rfl, ha⟩
      clear ha
      have HBd := hide (HBc.out.on hbd)
      have hsz := HBc.out.2.2.2.1
      have HV1 := hide (And.intro hv1 (hf1.mono (show w.heap.size + 1 + 1 + 1 ≤ wc.heap.size by omega)))
      clear hv1 hf1 hbd HPc HBc hsz
      refine hK _ _ HBd.out.kept ?_
      clear hK K
      refine one_readyH (i := 14) (by kernel_rfl) rfl rfl (fun K hK => ?_)
      go_simp
      refine (cloneP_any P o2 c2 wd (HP.out.below HBd.out.2.2.2.2) (by omega)).mono ?_
      rintro e we ⟨⟨v2, rfl, ⟨ob, cb, rfl, hb⟩, hf2⟩, hbe⟩
      have hv2 : TapsV we (.slice ob P.length cb) P := ⟨ob, cb, rfl, hb⟩
      clear hb
      have HBe := hide (HBd.out.on hbe)
      have HV1e := hide (And.intro (HV1.out.1.below hbe) HV1.out.2)
      have hsz := HBd.out.2.2.2.1
      have HV2 := hide (And.intro hv2 (hf2.mono (show w.heap.size + 1 + 1 + 1 ≤ wd.heap.size by omega)))
      clear hv2 hf2 hbe HBd hsz HV1
      refine hK _ _ HBe.out.kept ?_
      clear hK K
      refine one_readyH (i := 17) (by kernel_rfl) rfl rfl (fun K hK => ?_)
      go_simp
      refine (cloneV_any V o3 c3 we (HV.out.below HBe.out.2.2.2.2) (by omega)).mono ?_
      rintro e wf ⟨⟨v3, rfl, ⟨oc, cc, rfl, hc⟩, hf3⟩, hbf⟩
      have hv3 : IntsV wf (.slice oc V.length cc) V := ⟨oc, cc, rfl, hc⟩
      clear hc
      have HBf := hide (HBe.out.on hbf)
      have HV1f := hide (And.intro (HV1e.out.1.below hbf) HV1e.out.2)
      have HV2f := hide (And.intro (HV2.out.1.below hbf) HV2.out.2)
      have hsz := HBe.out.2.2.2.1
      have HV3 := hide (And.intro hv3 (hf3.mono (show w.heap.size + 1 + 1 + 1 ≤ we.heap.size by omega)))
      clear hv3 hf3 hbf HBe hsz HV1e HV2
      refine hK _ _ HBf.out.kept ?_
      clear hK K
      refine one_readyH (i := 18) (by kernel_rfl) rfl rfl (fun K hK => ?_)
      go_simp
      refine hK _ _ HBf.out.kept ?_
      clear hK K
      have hrow := HBf.out.2.2.1
      have r0 := cell_of_row wf _ 0 _ _ _ hrow
      have r1 := cell_of_row wf _ 1 _ _ _ hrow
      have r2 := cell_of_row wf _ 2 _ _ _ hrow
      have s0 := frozen_of_row wf _ 0 _ _ hrow
      have s1 := frozen_of_row wf _ 1 _ _ hrow
      have s2 := frozen_of_row wf _ 2 _ _ hrow
      simp at r0 r1 r2
      clear hrow
      refine one_readyH (i := 19) (by kernel_rfl) rfl rfl (fun K hK => ?_)
      go_simp
      have HKg := hide (((HBf.out.kept.set 0 (.slice oa M.length ca)).set 1 (.slice ob P.length cb)).set 2 (.slice oc V.length cc))
      have HLg : Hid (Led3 (((wf.setCell ⟨w.heap.size + 1 + 1, 0, none⟩ (.slice oa M.length ca)).setCell ⟨w.heap.size + 1 + 1, 1, none⟩ (.slice ob P.length cb)).setCell ⟨w.heap.size + 1 + 1, 2, none⟩ (.slice oc V.length cc)) (w.heap.size + 1 + 1) oa ob oc M.length ca P.length cb V.length cc) := by
        refine hide ⟨?_, ?_, ?_⟩
        all_goals simp [go_sem, r0, r1, r2]
      have HVg : Hid (LedV (((wf.setCell ⟨w.heap.size + 1 + 1, 0, none⟩ (.slice oa M.length ca)).setCell ⟨w.heap.size + 1 + 1, 1, none⟩ (.slice ob P.length cb)).setCell ⟨w.heap.size + 1 + 1, 2, none⟩ (.slice oc V.length cc)) (lg oa ob oc M.length ca P.length cb V.length cc) M P V) := by
        obtain ⟨a1, a2⟩ := HV1f.out
        obtain ⟨b1, b2⟩ := HV2f.out
        obtain ⟨d1, d2⟩ := HV3.out
        exact hide ⟨_, _, _, rfl, ((a1.set a2 (by simp) _).set a2 (by simp) _).set a2 (by simp) _, ((b1.set b2 (by simp) _).set b2 (by simp) _).set b2 (by simp) _, ((d1.set d2 (by simp) _).set d2 (by simp) _).set d2 (by simp) _⟩
      refine hK _ _ HKg.out ?_
      clear hK K HV1f HV2f HV3 HBf r0 r1 r2 s0 s1 s2
      generalize ((wf.setCell ⟨w.heap.size + 1 + 1, 0, none⟩ (.slice oa M.length ca)).setCell ⟨w.heap.size + 1 + 1, 1, none⟩ (.slice ob P.length cb)).setCell ⟨w.heap.size + 1 + 1, 2, none⟩ (.slice oc V.length cc) = wg at *
      refine one_readyH (i := 20) (by kernel_rfl) rfl rfl (fun K hK => ?_)
      go_simp
      refine hK _ _ HKg.out ?_
      clear hK K
      refine wpAnyH_done (by kernel_rfl) ?_ _
      obtain ⟨g0, g1, g2⟩ := HLg.out
      go_wp2_with fail
      refine bodyPost_ret (v := .tuple #[lg oa ob oc M.length ca P.length cb V.length cc, .int .i64 0]) (by simp [results, Try.results18, go_sem, g0, g1, g2]) rfl ⟨⟨_, rfl, ?_⟩, HKg.out.2.2.2⟩
      rw [show T.take pos ++ (⟨i, k, f, t, z, r⟩ :: T.drop pos) = M by rw [← HM.out]; simp]
      exact HVg.out

end Go.Proofs.Ytcakfmpckbmdeab
