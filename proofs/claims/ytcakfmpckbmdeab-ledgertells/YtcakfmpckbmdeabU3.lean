/-
  'EnterOf' (package leeboardref): a tap that is entered.
-/
import Derived.Test.YtcakfmpckbmdeabU2
namespace Go.Proofs.Ytcakfmpckbmdeab
open Go.RowKit

theorem own_form' {w : World} {base n : Nat} {e : TypeId} {size : Nat} {v : Value} {xs : List Value} (h : w.ownsRow base e size v n xs) (hn : 0 < n) : ∃ g c, v = .slice (some ⟨g, 0, none⟩) n c ∧ base ≤ g := by
  rcases h.2 with ⟨-, h0⟩ | ⟨g, c, cur, rfl, h1, h2, h3, h4⟩
  · omega
  · exact ⟨g, c, rfl, h1⟩

/-- what each operation leaves -/
def phiO (n B lp : Nat) (o1 o2 o3 : Option Addr) (c1 c2 c3 : Nat) (T : List TK) (P : List TP) (V : List Int) (p : TP) (j : Int) (k : Nat) (v : Value) (w : World) : Prop :=
  match k with
  | 0 => v = .pointer (some ⟨n, 0, none⟩)
  | 1 => v = .slice o1 T.length c1
  | 2 => ∃ g, v = .slice (some ⟨g, 0, none⟩) 0 0 ∧ B ≤ g ∧ w.heap[g]? = some (.cells #[] 32 (0, 0))
  | 3 => v = .pointer (some ⟨n, 1, none⟩)
  | 4 => v = .slice o2 lp c2
  | 5 => w.ownsRow B 32 5 v lp (cellsP P)
  | 6 => v = tp p.a p.g p.s p.m p.z
  | 7 => ∃ b, v = .slice (some ⟨b, 0, none⟩) 1 1 ∧ w.heap[b]? = some (.cells #[.int .i64 p.a, .int .i64 p.g, .int .i64 p.s, .int .i64 p.m, .int .i64 p.z] 32 (0, 0))
  | 8 => w.ownsRow B 32 5 v (lp + 1) (cellsP (P ++ [p]))
  | 9 => ∃ g, v = .slice (some ⟨g, 0, none⟩) 0 0 ∧ B ≤ g ∧ w.heap[g]? = some (.cells #[] 3 (0, 0))
  | 10 => v = .pointer (some ⟨n, 2, none⟩)
  | 11 => v = .slice o3 V.length c3
  | 12 => w.ownsRow B 3 1 v V.length (cellsV V)
  | 13 => v = .int .i64 j
  | 14 => ∃ b, v = .slice (some ⟨b, 0, none⟩) 1 1 ∧ w.heap[b]? = some (.cells #[.int .i64 j] 3 (0, 0))
  | 15 => w.ownsRow B 3 1 v (V.length + 1) (cellsV (V ++ [j]))
  | 16 => ∃ gb cb gc cc, v = .agg #[.slice o1 T.length c1, .slice (some ⟨gb, 0, none⟩) (lp + 1) cb, .slice (some ⟨gc, 0, none⟩) (V.length + 1) cc] ∧ w.ownsRow B 32 5 (.slice (some ⟨gb, 0, none⟩) (lp + 1) cb) (lp + 1) (cellsP (P ++ [p])) ∧ w.ownsRow B 3 1 (.slice (some ⟨gc, 0, none⟩) (V.length + 1) cc) (V.length + 1) (cellsV (V ++ [j]))
  | _ => True

section
variable {n B lp : Nat} {o1 o2 o3 : Option Addr} {c1 c2 c3 : Nat} {T : List TK} {P : List TP} {V : List Int} {p : TP} {j : Int}

theorem phiO_below (k : Nat) (v : Value) (w w' : World) (h : phiO n B lp o1 o2 o3 c1 c2 c3 T P V p j k v w) (hb : Below w.heap.size w w') : phiO n B lp o1 o2 o3 c1 c2 c3 T P V p j k v w' := by
  unfold phiO at h ⊢
  split <;> simp only [] at h
  all_goals first
    | exact h
    | exact ownsRow_below h hb
    | (obtain ⟨g, e, h1, h2⟩ := h; exact ⟨g, e, h1, block_below h2 hb⟩)
    | (obtain ⟨g, e, h2⟩ := h; exact ⟨g, e, block_below h2 hb⟩)
    | (obtain ⟨gb, cb, gc, cc, e, h1, h2⟩ := h; exact ⟨gb, cb, gc, cc, e, ownsRow_below h1 hb, ownsRow_below h2 hb⟩)

theorem phiO_tap (k : Nat) (v : Value) (w w' : World) (row : Option Nat) (h : phiO n B lp o1 o2 o3 c1 c2 c3 T P V p j k v w) (hg : w.grownBy w' row) (hr : ∀ g, row = some g → ∃ cur, w.heap[g]? = some (.cells cur 32 (0, 0)))
    (h2 : k ≠ 2) (h5 : k ≠ 5) (h7 : k = 7 → ∀ g, row = some g → w.heap[g]? = some (.cells #[] 32 (0, 0))) (h8 : k ≠ 8) (h16 : k ≠ 16) : phiO n B lp o1 o2 o3 c1 c2 c3 T P V p j k v w' := by
  have hi : ∀ g cur, row = some g → w.heap[g]? ≠ some (.cells cur 3 (0, 0)) := fun g cur e e' => by
    obtain ⟨cur', h'⟩ := hr g e
    rw [h'] at e'
    cases e'
  unfold phiO at h ⊢
  split <;> simp only [] at h
  all_goals first
    | exact h
    | exact absurd rfl h2
    | exact absurd rfl h5
    | exact absurd rfl h8
    | exact absurd rfl h16
    | exact ownsRow_far h hg hi
    | (obtain ⟨g, e, h1, h2⟩ := h; exact ⟨g, e, h1, block_far h2 hg (fun g' hg' => hi g' _ hg')⟩)
    | (obtain ⟨g, e, h3⟩ := h; exact ⟨g, e, block_far h3 hg (fun g' hg' => hi g' _ hg')⟩)
    | (obtain ⟨g, e, h3⟩ := h; refine ⟨g, e, block_far h3 hg (fun g' hg' e' => ?_)⟩; rw [h7 rfl g' hg'] at e'; cases e')

theorem phiO_int (k : Nat) (v : Value) (w w' : World) (row : Option Nat) (h : phiO n B lp o1 o2 o3 c1 c2 c3 T P V p j k v w) (hg : w.grownBy w' row) (hr : ∀ g, row = some g → ∃ cur, w.heap[g]? = some (.cells cur 3 (0, 0)))
    (h9 : k ≠ 9) (h12 : k ≠ 12) (h14 : k = 14 → ∀ g, row = some g → w.heap[g]? = some (.cells #[] 3 (0, 0))) (h15 : k ≠ 15) (h16 : k ≠ 16) : phiO n B lp o1 o2 o3 c1 c2 c3 T P V p j k v w' := by
  have hi : ∀ g cur, row = some g → w.heap[g]? ≠ some (.cells cur 32 (0, 0)) := fun g cur e e' => by
    obtain ⟨cur', h'⟩ := hr g e
    rw [h'] at e'
    cases e'
  unfold phiO at h ⊢
  split <;> simp only [] at h
  all_goals first
    | exact h
    | exact absurd rfl h9
    | exact absurd rfl h12
    | exact absurd rfl h15
    | exact absurd rfl h16
    | exact ownsRow_far h hg hi
    | (obtain ⟨g, e, h1, h2⟩ := h; exact ⟨g, e, h1, block_far h2 hg (fun g' hg' => hi g' _ hg')⟩)
    | (obtain ⟨g, e, h3⟩ := h; exact ⟨g, e, block_far h3 hg (fun g' hg' => hi g' _ hg')⟩)
    | (obtain ⟨g, e, h3⟩ := h; refine ⟨g, e, block_far h3 hg (fun g' hg' e' => ?_)⟩; rw [h14 rfl g' hg'] at e'; cases e')

end

def spoilO (i k : Nat) : Bool := (i == 5 && k == 2) || (i == 8 && (k == 2 || k == 5 || k == 7)) || (i == 12 && k == 9) || (i == 15 && (k == 9 || k == 12 || k == 14))
def reachO (j k : Nat) : Bool := (j == 8 && k == 5) || (j == 16 && (k == 5 || k == 8 || k == 12 || k == 15)) || (j == 15 && k == 12)

theorem cells_block {w : World} {b : Nat} {cur : Array Value} {e : TypeId} (h : w.heap[b]? = some (.cells cur e (0, 0))) : ∀ j u, cur.toList[j]? = some u → w.cell? ((⟨b, 0, none⟩ : Addr).add j) = some u := by
  intro j u hj
  have : (⟨b, 0, none⟩ : Addr).add j = ⟨b, j, none⟩ := by
    by_cases h : j = 0
    · subst h; simp [Addr.add]
    · simp [Addr.add, h]
  rw [this, cell_of_row _ _ j _ _ _ h]
  simpa using hj

theorem own_none {w : World} {L : List Int} (h : IntsAt w none L) : L.length = 0 := by
  cases L with
  | nil => rfl
  | cons x L => obtain ⟨b, e, -⟩ := h 0 x rfl; cases e

theorem own_noneP {w : World} {L : List TP} (h : TapsAt w none L) : L.length = 0 := by
  cases L with
  | nil => rfl
  | cons x L => obtain ⟨b, e, -⟩ := h 0 x rfl; cases e

set_option maxHeartbeats 6400000 in
set_option maxRecDepth 100000 in
theorem enterOf_ok (T : List TK) (P : List TP) (V : List Int) (a g s m z : Int) (o1 o2 o3 : Option Addr) (c1 c2 c3 : Nat) (w : World) (hT : TiksAt w o1 T) (hP : TapsAt w o2 P) (hV : IntsAt w o3 V) (hlT : T.length ≤ 12) (hlP : P.length ≤ 60) (hlv : V.length = P.length) (h : chkP a g s m z = 0) (k : Nat) (x : TK) (hi : idxT T a = k) (hx : T[k]? = some x) (hck : chkK x = 0) (hti : ∀ y ∈ P, 0 ≤ y.m ∧ y.m ≤ 9999) (htw : twiceT P ⟨a, g, s, m, z⟩ = false) (hno : P = [] ∨ ∃ n q, P.length = n + 1 ∧ P[n]? = some q ∧ ¬ m < q.m) (hc1 : T.length ≤ c1) (hn2 : o2 = none → c2 = 0) (hn3 : o3 = none → c3 = 0) (hJ : (judge x.k x.f x.t x.z x.r (many (P.zip V) a).2 (many (P.zip V) a).1 m z).2 = 0) (h60 : ¬ P.length = 60) :
    Calls Try.prog 23 #[lg o1 o2 o3 T.length c1 P.length c2 V.length c3, tp a g s m z] w fun e w' => (∃ v, e = .returned (.tuple #[v, .int .i64 (judge x.k x.f x.t x.z x.r (many (P.zip V) a).2 (many (P.zip V) a).1 m z).1, .int .i64 0]) ∧ LedV w' v T (P ++ [(⟨a, g, s, m, z⟩ : TP)]) (V ++ [(judge x.k x.f x.t x.z x.r (many (P.zip V) a).2 (many (P.zip V) a).1 m z).1])) ∧ Below w.heap.size w w' := by
  have HT := hide hT
  have HP := hide hP
  have HV := hide hV
  have HTX := hide hx
  have HX := hide (fun W => checkTap_any a g s m z W)
  have hzz := (chk_right (i := x.i) (k := x.k) (f := x.f) (t := x.t) (z := x.z) (r := x.r) hck).2.2.2.1
  have hkl := (List.getElem?_eq_some_iff.1 hx).1
  have hpz := (chkP_right h).2.2.2.2
  have hml := many_last (P.zip V) a (fun y hy => hti y.1 (List.of_mem_zip hy).1)
  have HJ := hide (fun W => judgeOf_any x.i x.k x.f x.t x.z x.r (many (P.zip V) a).2 (many (P.zip V) a).1 a g s m z W (by omega) (by omega) hpz hml.2 hml.1)
  have HM := hide (fun W (h : TapsAt W o2 P) (h' : IntsAt W o3 V) => manyOf_any o1 o2 o3 T.length c1 c2 c3 P V a P.length W h h' (Nat.le_refl _) (by omega) (by omega))
  rw [List.take_of_length_le (l := P.zip V) (by rw [List.length_zip]; omega)] at HM
  rw [h] at HX
  have HZ := hide (fun W (h : TapsAt W o2 P) => isTwice_any o2 c2 P P.length a g s m z W h (Nat.le_refl _) (by omega))
  rw [List.take_length] at HZ
  rw [htw] at HZ
  have HLV := hide hlv
  clear hT hP hV hx hck h htw hml hpz hzz hti hlv
  generalize (judge x.k x.f x.t x.z x.r (many (P.zip V) a).2 (many (P.zip V) a).1 m z) = J at *
  obtain ⟨J1, J2⟩ := J
  simp only [] at HJ hJ ⊢
  generalize (many (P.zip V) a).2 = M2 at *
  generalize (many (P.zip V) a).1 = M1 at *
  subst hJ
  have HN1 : Hid (o3 = none → V.length = 0) := hide (fun e => own_none (e ▸ HV.out))
  have hlV : V.length ≤ 60 := by have := HLV.out; omega
  have h60' : ¬ P.length = 60 := h60
  clear h60
  rcases hno with hP0 | ⟨n, q, hn, hq, hm⟩
  · have HP0 := hide hP0
    have hlz : P.length = 0 := by rw [hP0]; rfl
    have HLP := hide hlz
    rw [hlz] at hlP HZ HM h60' ⊢
    clear hP0 hlz
    go_enter Try.func23, Try.ntmps23
    go_wp2_with fail
    have HG1 := hide ((((Blks.nil w).more (.cells #[.slice o1 T.length c1, .slice o2 0 c2, .slice o3 V.length c3] 43) (by simp)).more (.cells #[.int .i64 a, .int .i64 g, .int .i64 s, .int .i64 m, .int .i64 z] 32) (by simp)).more (.cells #[.slice none 0 0, .slice none 0 0, .slice none 0 0] 43) (by simp))
    refine (HX.out _).mono ?_
    rintro e w1 ⟨rfl, hb⟩
    have HG1w1 := hide (HG1.out.on hb)
    clear hb HG1
    have lG1_0 := HG1w1.out.lt 0 w.heap.size (by simp) rfl
    have cG1_0_0 := HG1w1.out.cell 0 0 w.heap.size _ _ _ rfl rfl rfl
    have cG1_0_1 := HG1w1.out.cell 0 1 w.heap.size _ _ _ rfl rfl rfl
    have cG1_0_2 := HG1w1.out.cell 0 2 w.heap.size _ _ _ rfl rfl rfl
    have lG1_1 := HG1w1.out.lt 1 (w.heap.size + 1) (by simp) rfl
    have cG1_1_0 := HG1w1.out.cell 1 0 (w.heap.size + 1) _ _ _ rfl rfl rfl
    have cG1_1_1 := HG1w1.out.cell 1 1 (w.heap.size + 1) _ _ _ rfl rfl rfl
    have cG1_1_2 := HG1w1.out.cell 1 2 (w.heap.size + 1) _ _ _ rfl rfl rfl
    have cG1_1_3 := HG1w1.out.cell 1 3 (w.heap.size + 1) _ _ _ rfl rfl rfl
    have cG1_1_4 := HG1w1.out.cell 1 4 (w.heap.size + 1) _ _ _ rfl rfl rfl
    have lG1_2 := HG1w1.out.lt 2 (w.heap.size + 1 + 1) (by simp) rfl
    have cG1_2_0 := HG1w1.out.cell 2 0 (w.heap.size + 1 + 1) _ _ _ rfl rfl rfl
    have fG1_2_0 := HG1w1.out.frozen 2 0 (w.heap.size + 1 + 1) _ _ rfl rfl
    have cG1_2_1 := HG1w1.out.cell 2 1 (w.heap.size + 1 + 1) _ _ _ rfl rfl rfl
    have fG1_2_1 := HG1w1.out.frozen 2 1 (w.heap.size + 1 + 1) _ _ rfl rfl
    have cG1_2_2 := HG1w1.out.cell 2 2 (w.heap.size + 1 + 1) _ _ _ rfl rfl rfl
    have fG1_2_2 := HG1w1.out.frozen 2 2 (w.heap.size + 1 + 1) _ _ rfl rfl
    go_wp2_with fail
    refine (ticketAt_any o1 _ T _ _ (HT.out.below HG1w1.out.2.2) (by omega)).mono ?_
    rintro e w1' ⟨rfl, hw1⟩
    obtain rfl := hw1.symm
    clear hw1
    rw [hi]
    have hk0 : ¬ ((k : Int) < 0) := by omega
    go_wp2_with fail
    refine (HZ.out _ (HP.out.below HG1w1.out.2.2)).mono ?_
    rintro e w2 ⟨rfl, hb⟩
    have HG1w2 := hide (HG1w1.out.on hb)
    clear lG1_0 cG1_0_0 cG1_0_1 cG1_0_2 lG1_1 cG1_1_0 cG1_1_1 cG1_1_2 cG1_1_3 cG1_1_4 lG1_2 cG1_2_0 fG1_2_0 cG1_2_1 fG1_2_1 cG1_2_2 fG1_2_2
    clear hb HG1w1
    have lG1_0 := HG1w2.out.lt 0 w.heap.size (by simp) rfl
    have cG1_0_0 := HG1w2.out.cell 0 0 w.heap.size _ _ _ rfl rfl rfl
    have cG1_0_1 := HG1w2.out.cell 0 1 w.heap.size _ _ _ rfl rfl rfl
    have cG1_0_2 := HG1w2.out.cell 0 2 w.heap.size _ _ _ rfl rfl rfl
    have lG1_1 := HG1w2.out.lt 1 (w.heap.size + 1) (by simp) rfl
    have cG1_1_0 := HG1w2.out.cell 1 0 (w.heap.size + 1) _ _ _ rfl rfl rfl
    have cG1_1_1 := HG1w2.out.cell 1 1 (w.heap.size + 1) _ _ _ rfl rfl rfl
    have cG1_1_2 := HG1w2.out.cell 1 2 (w.heap.size + 1) _ _ _ rfl rfl rfl
    have cG1_1_3 := HG1w2.out.cell 1 3 (w.heap.size + 1) _ _ _ rfl rfl rfl
    have cG1_1_4 := HG1w2.out.cell 1 4 (w.heap.size + 1) _ _ _ rfl rfl rfl
    have lG1_2 := HG1w2.out.lt 2 (w.heap.size + 1 + 1) (by simp) rfl
    have cG1_2_0 := HG1w2.out.cell 2 0 (w.heap.size + 1 + 1) _ _ _ rfl rfl rfl
    have fG1_2_0 := HG1w2.out.frozen 2 0 (w.heap.size + 1 + 1) _ _ rfl rfl
    have cG1_2_1 := HG1w2.out.cell 2 1 (w.heap.size + 1 + 1) _ _ _ rfl rfl rfl
    have fG1_2_1 := HG1w2.out.frozen 2 1 (w.heap.size + 1 + 1) _ _ rfl rfl
    have cG1_2_2 := HG1w2.out.cell 2 2 (w.heap.size + 1 + 1) _ _ _ rfl rfl rfl
    have fG1_2_2 := HG1w2.out.frozen 2 2 (w.heap.size + 1 + 1) _ _ rfl rfl
    go_wp2_with fail
    go_region
    go_wp2_with fail
    refine (HM.out _ (HP.out.below HG1w2.out.2.2.drew) (HV.out.below HG1w2.out.2.2.drew)).mono ?_
    rintro e w3 ⟨rfl, hb⟩
    have HG1w3 := hide ((HG1w2.out.on ((Below.refl _ _).drew)).on hb)
    clear lG1_0 cG1_0_0 cG1_0_1 cG1_0_2 lG1_1 cG1_1_0 cG1_1_1 cG1_1_2 cG1_1_3 cG1_1_4 lG1_2 cG1_2_0 fG1_2_0 cG1_2_1 fG1_2_1 cG1_2_2 fG1_2_2
    clear hb HG1w2
    have lG1_0 := HG1w3.out.lt 0 w.heap.size (by simp) rfl
    have cG1_0_0 := HG1w3.out.cell 0 0 w.heap.size _ _ _ rfl rfl rfl
    have cG1_0_1 := HG1w3.out.cell 0 1 w.heap.size _ _ _ rfl rfl rfl
    have cG1_0_2 := HG1w3.out.cell 0 2 w.heap.size _ _ _ rfl rfl rfl
    have lG1_1 := HG1w3.out.lt 1 (w.heap.size + 1) (by simp) rfl
    have cG1_1_0 := HG1w3.out.cell 1 0 (w.heap.size + 1) _ _ _ rfl rfl rfl
    have cG1_1_1 := HG1w3.out.cell 1 1 (w.heap.size + 1) _ _ _ rfl rfl rfl
    have cG1_1_2 := HG1w3.out.cell 1 2 (w.heap.size + 1) _ _ _ rfl rfl rfl
    have cG1_1_3 := HG1w3.out.cell 1 3 (w.heap.size + 1) _ _ _ rfl rfl rfl
    have cG1_1_4 := HG1w3.out.cell 1 4 (w.heap.size + 1) _ _ _ rfl rfl rfl
    have lG1_2 := HG1w3.out.lt 2 (w.heap.size + 1 + 1) (by simp) rfl
    have cG1_2_0 := HG1w3.out.cell 2 0 (w.heap.size + 1 + 1) _ _ _ rfl rfl rfl
    have cG1_2_1 := HG1w3.out.cell 2 1 (w.heap.size + 1 + 1) _ _ _ rfl rfl rfl
    have cG1_2_2 := HG1w3.out.cell 2 2 (w.heap.size + 1 + 1) _ _ _ rfl rfl rfl
    obtain ⟨Bt, hBt, k0, k1, k2, k3, k4, k5⟩ := (HT.out.below HG1w3.out.2.2) k x HTX.out
    subst hBt
    go_wp2_with fail
    have q0 := cell_regrown cG1_0_0
    have q1 := cell_regrown cG1_0_1
    have q2 := cell_regrown cG1_0_2
    have q3 := cell_regrown cG1_1_0
    have q4 := cell_regrown cG1_1_1
    have q5 := cell_regrown cG1_1_2
    have q6 := cell_regrown cG1_1_3
    have q7 := cell_regrown cG1_1_4
    have q8 := cell_regrown k0
    have q9 := cell_regrown k1
    have q10 := cell_regrown k2
    have q11 := cell_regrown k3
    have q12 := cell_regrown k4
    have q13 := cell_regrown k5
    have cJ : ∀ d os, Calls Try.prog 14 #[tk x.i x.k x.f x.t x.z x.r, .int .i64 M2, .int .i64 M1, tp a g s m z] (Sort.grow (redrawn w3 d) os) fun e w'' => e = .returned (.tuple #[.int .i64 J1, .int .i64 0]) ∧ ∃ p : Regrown, w'' = Sort.grow (redrawn w3 p.d) p.os :=
      fun d os => Calls.regrown_of (HJ.out _)
    refine wp_region_quiet_below (by kernel_rfl) (by kernel_rfl) ?_
    repeat (quiet_step (exact cJ _ _))
    refine wpQuiet_nil ?_
    intro _ hw'
    obtain ⟨⟨dq, osq⟩, hw''⟩ := hw'
    subst hw''
    have hbw := below_regrown w3 dq osq
    have HG1w4 := hide (HG1w3.out.on hbw)
    clear lG1_0 cG1_0_0 cG1_0_1 cG1_0_2 lG1_1 cG1_1_0 cG1_1_1 cG1_1_2 cG1_1_3 cG1_1_4 lG1_2 cG1_2_0 cG1_2_1 cG1_2_2
    clear hbw HG1w3 cJ k0 k1 k2 k3 k4 k5 q0 q1 q2 q3 q4 q5 q6 q7 q8 q9 q10 q11 q12 q13
    generalize Sort.grow (redrawn w3 dq) osq = w4 at *
    have lG1_0 := HG1w4.out.lt 0 w.heap.size (by simp) rfl
    have cG1_0_0 := HG1w4.out.cell 0 0 w.heap.size _ _ _ rfl rfl rfl
    have cG1_0_1 := HG1w4.out.cell 0 1 w.heap.size _ _ _ rfl rfl rfl
    have cG1_0_2 := HG1w4.out.cell 0 2 w.heap.size _ _ _ rfl rfl rfl
    have lG1_1 := HG1w4.out.lt 1 (w.heap.size + 1) (by simp) rfl
    have cG1_1_0 := HG1w4.out.cell 1 0 (w.heap.size + 1) _ _ _ rfl rfl rfl
    have cG1_1_1 := HG1w4.out.cell 1 1 (w.heap.size + 1) _ _ _ rfl rfl rfl
    have cG1_1_2 := HG1w4.out.cell 1 2 (w.heap.size + 1) _ _ _ rfl rfl rfl
    have cG1_1_3 := HG1w4.out.cell 1 3 (w.heap.size + 1) _ _ _ rfl rfl rfl
    have cG1_1_4 := HG1w4.out.cell 1 4 (w.heap.size + 1) _ _ _ rfl rfl rfl
    have lG1_2 := HG1w4.out.lt 2 (w.heap.size + 1 + 1) (by simp) rfl
    have cG1_2_0 := HG1w4.out.cell 2 0 (w.heap.size + 1 + 1) _ _ _ rfl rfl rfl
    have fG1_2_0 := HG1w4.out.frozen 2 0 (w.heap.size + 1 + 1) _ _ rfl rfl
    have cG1_2_1 := HG1w4.out.cell 2 1 (w.heap.size + 1 + 1) _ _ _ rfl rfl rfl
    have fG1_2_1 := HG1w4.out.frozen 2 1 (w.heap.size + 1 + 1) _ _ rfl rfl
    have cG1_2_2 := HG1w4.out.cell 2 2 (w.heap.size + 1 + 1) _ _ _ rfl rfl rfl
    have fG1_2_2 := HG1w4.out.frozen 2 2 (w.heap.size + 1 + 1) _ _ rfl rfl
    go_wp2_with fail
    clear lG1_0 cG1_0_0 cG1_0_1 cG1_0_2 lG1_1 cG1_1_0 cG1_1_1 cG1_1_2 cG1_1_3 cG1_1_4 lG1_2 cG1_2_0 fG1_2_0 cG1_2_1 fG1_2_1 cG1_2_2 fG1_2_2
    clear HX HJ HM HZ HTX
    refine wp_region_any (by kernel_rfl) ?_
    refine wpAny_take (i := 17) (v := .int .i64 J1) (fuel := 21) rfl (by kernel_rfl) (by kernel_rfl) (by kernel_rfl) (fun c a w h => h) (.inl ⟨rfl, fun w => by go_simp⟩) ?_
    refine wpAny_take (i := 18) (v := .int .i64 0) (fuel := 20) rfl (by kernel_rfl) (by kernel_rfl) (by kernel_rfl) (fun c a w h => h) (.inl ⟨rfl, fun w => by go_simp⟩) ?_
    refine wpAny_makersS spoilO reachO (fun w' => Blks w w' ([] ++ [.cells #[.slice (some Bt) T.length c1, .slice o2 0 c2, .slice o3 V.length c3] 43] ++ [.cells #[.int .i64 a, .int .i64 g, .int .i64 s, .int .i64 m, .int .i64 z] 32] ++ [.cells #[.slice none 0 0, .slice none 0 0, .slice none 0 0] 43])) (phiO w.heap.size (w.heap.size + 1 + 1 + 1) 0 (some Bt) o2 o3 c1 c2 c3 T P V ⟨a, g, s, m, z⟩ J1) 17 3 #[true, true, false, false, false] [83, 84, 85, 86, 87, 88, 89, 90, 91, 92, 93, 94, 95, 96, 97, 98, 99] (by kernel_rfl) (by kernel_rfl) (by kernel_rfl) (by kernel_rfl) (by kernel_rfl) 102 rfl (by kernel_rfl) ?_ ?_ ?_
    · exact HG1w4.out.on (Below.refl _ _).drew
    · clear HG1w4
      intro k o hk ho aa w' hS hd hb K' hK
      have b2 : aa.tmps[2]?.getD undef = .pointer (some ⟨w.heap.size, 0, none⟩) := ev_of ((hb 2 (by intro j hj; revert j; decide +kernel)).trans rfl)
      have b3 : aa.tmps[3]?.getD undef = .pointer (some ⟨w.heap.size + 1, 0, none⟩) := ev_of ((hb 3 (by intro j hj; revert j; decide +kernel)).trans rfl)
      have b12 : aa.tmps[12]?.getD undef = .int .i64 J1 := ev_of ((hb 12 (by intro j hj; revert j; decide +kernel)).trans rfl)
      clear hb
      match k, hk, ho, hK with
      | 0, _, ho, hK =>
        simp only [List.getElem?_toArray, List.getElem?_cons_zero, Option.some.injEq] at ho
        subst ho
        simp only [] at hd hK
        clear hd
        go_simp
        exact hK _ _ rfl hS (fun _ _ _ _ _ _ h => h)
      | 1, _, ho, hK =>
        simp only [List.getElem?_toArray, List.getElem?_cons_zero, List.getElem?_cons_succ, Option.some.injEq] at ho
        subst ho
        simp only [] at hd hK
        have d0 : aa.eval (.tmp 83) = .pointer (some ⟨w.heap.size, 0, none⟩) := hd ⟨0, .data⟩ (by simp) rfl (by intro j hj; revert j; decide +kernel)
        have d0 := ev_of d0
        have x0 := hS.cell 0 0 w.heap.size _ _ _ rfl rfl rfl
        have x1 := hS.cell 0 1 w.heap.size _ _ _ rfl rfl rfl
        have x2 := hS.cell 0 2 w.heap.size _ _ _ rfl rfl rfl
        have y0 := hS.cell 1 0 (w.heap.size + 1) _ _ _ rfl rfl rfl
        have y1 := hS.cell 1 1 (w.heap.size + 1) _ _ _ rfl rfl rfl
        have y2 := hS.cell 1 2 (w.heap.size + 1) _ _ _ rfl rfl rfl
        have y3 := hS.cell 1 3 (w.heap.size + 1) _ _ _ rfl rfl rfl
        have y4 := hS.cell 1 4 (w.heap.size + 1) _ _ _ rfl rfl rfl
        clear hd
        go_simp
        exact hK _ _ rfl hS (fun _ _ _ _ _ _ h => h)
      | 2, _, ho, hK =>
        simp only [List.getElem?_toArray, List.getElem?_cons_zero, List.getElem?_cons_succ, Option.some.injEq] at ho
        subst ho
        simp only [] at hd hK
        clear hd
        have hbd := (Below.refl w'.heap.size w').alloc (Nat.le_refl _) (.cells #[] 32)
        have hsz := hS.2.1
        simp only [List.length_append, List.length_cons, List.length_nil] at hsz
        go_simp
        exact hK _ _ ⟨w'.heap.size, rfl, by omega, heap_alloc_new _ _⟩ (hS.on hbd) (fun j u _ _ _ _ h => phiO_below j u _ _ h hbd)
      | 3, _, ho, hK =>
        simp only [List.getElem?_toArray, List.getElem?_cons_zero, List.getElem?_cons_succ, Option.some.injEq] at ho
        subst ho
        simp only [] at hd hK
        clear hd
        go_simp
        exact hK _ _ rfl hS (fun _ _ _ _ _ _ h => h)
      | 4, _, ho, hK =>
        simp only [List.getElem?_toArray, List.getElem?_cons_zero, List.getElem?_cons_succ, Option.some.injEq] at ho
        subst ho
        simp only [] at hd hK
        have d0 : aa.eval (.tmp 86) = .pointer (some ⟨w.heap.size, 1, none⟩) := hd ⟨3, .data⟩ (by simp) rfl (by intro j hj; revert j; decide +kernel)
        have d0 := ev_of d0
        have x0 := hS.cell 0 0 w.heap.size _ _ _ rfl rfl rfl
        have x1 := hS.cell 0 1 w.heap.size _ _ _ rfl rfl rfl
        have x2 := hS.cell 0 2 w.heap.size _ _ _ rfl rfl rfl
        have y0 := hS.cell 1 0 (w.heap.size + 1) _ _ _ rfl rfl rfl
        have y1 := hS.cell 1 1 (w.heap.size + 1) _ _ _ rfl rfl rfl
        have y2 := hS.cell 1 2 (w.heap.size + 1) _ _ _ rfl rfl rfl
        have y3 := hS.cell 1 3 (w.heap.size + 1) _ _ _ rfl rfl rfl
        have y4 := hS.cell 1 4 (w.heap.size + 1) _ _ _ rfl rfl rfl
        clear hd
        go_simp
        exact hK _ _ rfl hS (fun _ _ _ _ _ _ h => h)
      | 5, _, ho, hK =>
        simp only [List.getElem?_toArray, List.getElem?_cons_zero, List.getElem?_cons_succ, Option.some.injEq] at ho
        subst ho
        simp only [] at hd hK
        obtain ⟨g2, d0, hg2, hh2⟩ : ∃ g, aa.eval (.tmp 85) = .slice (some ⟨g, 0, none⟩) 0 0 ∧ w.heap.size + 1 + 1 + 1 ≤ g ∧ w'.heap[g]? = some (.cells #[] 32 (0, 0)) := hd ⟨2, .data⟩ (by simp) rfl (by intro j hj; revert j; decide +kernel)
        have d1 : aa.eval (.tmp 87) = .slice o2 0 c2 := hd ⟨4, .data⟩ (by simp) rfl (by intro j hj; revert j; decide +kernel)
        have hsz := hS.2.1
        simp only [List.length_append, List.length_cons, List.length_nil] at hsz
        clear hd
        obtain ⟨i0, hi0, hz0, hz1, hz2⟩ := info_parts info32
        refine wp_append_row _ _ 30 rfl (w.heap.size + 1 + 1 + 1) 32 i0 _ 5 40 Try.underlying30 hi0 hz0 hz1 hz2 rfl (by decide) _ 0 [] d0 ⟨rfl, Or.inr ⟨g2, 0, #[], rfl, hg2, hh2, Nat.le_refl _, by decide, rfl, rfl⟩⟩ o2 0 c2 (cellsP P) d1 (by rw [cellsP_len, HLP.out]) (fun ad e => taps_cells (e ▸ HP.out.below hS.2.2)) (oneP P) (fun e => ⟨rfl, hn2 e⟩) (by unfold maxLen; omega) (by omega) (by omega) ?_
        intro v' w'' hown hgr
        refine hK _ _ (by rw [Nat.zero_add, List.nil_append] at hown; exact hown) (hS.keep ((Below.refl _ _).grown hgr (by simp; omega) (fun k hk => by simp [Value.ownBlock] at hk; simp; omega))) (fun j u hj hjk hsp hre h => ?_)
        refine phiO_tap j u _ _ _ h hgr (fun g hg => ?_) (fun e => by subst e; cases hsp) hjk (fun _ g hg => ?_) (fun e => by subst e; cases hre) (fun e => by subst e; cases hre)
        · simp [Value.ownBlock] at hg; subst hg; exact ⟨_, hh2⟩
        · simp [Value.ownBlock] at hg; subst hg; exact hh2
      | 6, _, ho, hK =>
        simp only [List.getElem?_toArray, List.getElem?_cons_zero, List.getElem?_cons_succ, Option.some.injEq] at ho
        subst ho
        simp only [] at hd hK
        have x0 := hS.cell 0 0 w.heap.size _ _ _ rfl rfl rfl
        have x1 := hS.cell 0 1 w.heap.size _ _ _ rfl rfl rfl
        have x2 := hS.cell 0 2 w.heap.size _ _ _ rfl rfl rfl
        have y0 := hS.cell 1 0 (w.heap.size + 1) _ _ _ rfl rfl rfl
        have y1 := hS.cell 1 1 (w.heap.size + 1) _ _ _ rfl rfl rfl
        have y2 := hS.cell 1 2 (w.heap.size + 1) _ _ _ rfl rfl rfl
        have y3 := hS.cell 1 3 (w.heap.size + 1) _ _ _ rfl rfl rfl
        have y4 := hS.cell 1 4 (w.heap.size + 1) _ _ _ rfl rfl rfl
        clear hd
        go_simp
        exact hK _ _ rfl hS (fun _ _ _ _ _ _ h => h)
      | 7, _, ho, hK =>
        simp only [List.getElem?_toArray, List.getElem?_cons_zero, List.getElem?_cons_succ, Option.some.injEq] at ho
        subst ho
        simp only [] at hd hK
        have d0 : aa.eval (.tmp 89) = tp a g s m z := hd ⟨6, .data⟩ (by simp) rfl (by intro j hj; revert j; decide +kernel)
        have d0 := ev_of d0
        clear hd
        have hbd := (Below.refl w'.heap.size w').alloc (Nat.le_refl _) (cP a g s m z 32)
        go_simp
        exact hK _ _ ⟨w'.heap.size, rfl, heap_alloc_new _ _⟩ (hS.on hbd) (fun j u _ _ _ _ h => phiO_below j u _ _ h hbd)
      | 8, _, ho, hK =>
        simp only [List.getElem?_toArray, List.getElem?_cons_zero, List.getElem?_cons_succ, Option.some.injEq] at ho
        subst ho
        simp only [] at hd hK
        have hown5 : w'.ownsRow (w.heap.size + 1 + 1 + 1) 32 5 (aa.eval (.tmp 88)) 0 (cellsP P) := hd ⟨5, .data⟩ (by simp) rfl (by intro j hj; revert j; decide +kernel)
        obtain ⟨b7, d1, hh7⟩ : ∃ b, aa.eval (.tmp 90) = .slice (some ⟨b, 0, none⟩) 1 1 ∧ w'.heap[b]? = some (.cells #[.int .i64 a, .int .i64 g, .int .i64 s, .int .i64 m, .int .i64 z] 32 (0, 0)) := hd ⟨7, .data⟩ (by simp) rfl (by intro j hj; revert j; decide +kernel)
        have hsz := hS.2.1
        simp only [List.length_append, List.length_cons, List.length_nil] at hsz
        clear hd
        obtain ⟨i0, hi0, hz0, hz1, hz2⟩ := info_parts info32
        refine wp_append_row _ _ 30 rfl (w.heap.size + 1 + 1 + 1) 32 i0 _ 5 40 Try.underlying30 hi0 hz0 hz1 hz2 rfl (by decide) _ 0 (cellsP P) rfl hown5 (some ⟨b7, 0, none⟩) 1 1 (cellsP [(⟨a, g, s, m, z⟩ : TP)]) d1 (cellsP_len _) (fun ad e => by cases e; exact cells_block hh7) (oneP _) (fun e => by cases e) (by unfold maxLen; omega) (by omega) (by omega) ?_
        intro v' w'' hown hgr
        refine hK _ _ (by rw [← cellsP_app] at hown; exact hown) (hS.keep ((Below.refl _ _).grown hgr (by simp; omega) (fun k hk => by have := (ownsRow_block hown5 k hk).1; simp; omega))) (fun j u hj hjk hsp hre h => ?_)
        refine phiO_tap j u _ _ _ h hgr (fun g hg => (ownsRow_block hown5 g hg).2) (fun e => by subst e; cases hsp) (fun e => by subst e; cases hsp) (fun e => by subst e; cases hsp) hjk (fun e => by subst e; cases hre)
      | 9, _, ho, hK =>
        simp only [List.getElem?_toArray, List.getElem?_cons_zero, List.getElem?_cons_succ, Option.some.injEq] at ho
        subst ho
        simp only [] at hd hK
        clear hd
        have hbd := (Below.refl w'.heap.size w').alloc (Nat.le_refl _) (.cells #[] 3)
        have hsz := hS.2.1
        simp only [List.length_append, List.length_cons, List.length_nil] at hsz
        go_simp
        exact hK _ _ ⟨w'.heap.size, rfl, by omega, heap_alloc_new _ _⟩ (hS.on hbd) (fun j u _ _ _ _ h => phiO_below j u _ _ h hbd)
      | 10, _, ho, hK =>
        simp only [List.getElem?_toArray, List.getElem?_cons_zero, List.getElem?_cons_succ, Option.some.injEq] at ho
        subst ho
        simp only [] at hd hK
        clear hd
        go_simp
        exact hK _ _ rfl hS (fun _ _ _ _ _ _ h => h)
      | 11, _, ho, hK =>
        simp only [List.getElem?_toArray, List.getElem?_cons_zero, List.getElem?_cons_succ, Option.some.injEq] at ho
        subst ho
        simp only [] at hd hK
        have d0 : aa.eval (.tmp 93) = .pointer (some ⟨w.heap.size, 2, none⟩) := hd ⟨10, .data⟩ (by simp) rfl (by intro j hj; revert j; decide +kernel)
        have d0 := ev_of d0
        have x0 := hS.cell 0 0 w.heap.size _ _ _ rfl rfl rfl
        have x1 := hS.cell 0 1 w.heap.size _ _ _ rfl rfl rfl
        have x2 := hS.cell 0 2 w.heap.size _ _ _ rfl rfl rfl
        have y0 := hS.cell 1 0 (w.heap.size + 1) _ _ _ rfl rfl rfl
        have y1 := hS.cell 1 1 (w.heap.size + 1) _ _ _ rfl rfl rfl
        have y2 := hS.cell 1 2 (w.heap.size + 1) _ _ _ rfl rfl rfl
        have y3 := hS.cell 1 3 (w.heap.size + 1) _ _ _ rfl rfl rfl
        have y4 := hS.cell 1 4 (w.heap.size + 1) _ _ _ rfl rfl rfl
        clear hd
        go_simp
        exact hK _ _ rfl hS (fun _ _ _ _ _ _ h => h)
      | 12, _, ho, hK =>
        simp only [List.getElem?_toArray, List.getElem?_cons_zero, List.getElem?_cons_succ, Option.some.injEq] at ho
        subst ho
        simp only [] at hd hK
        obtain ⟨g2, d0, hg2, hh2⟩ : ∃ g, aa.eval (.tmp 92) = .slice (some ⟨g, 0, none⟩) 0 0 ∧ w.heap.size + 1 + 1 + 1 ≤ g ∧ w'.heap[g]? = some (.cells #[] 3 (0, 0)) := hd ⟨9, .data⟩ (by simp) rfl (by intro j hj; revert j; decide +kernel)
        have d1 : aa.eval (.tmp 94) = .slice o3 V.length c3 := hd ⟨11, .data⟩ (by simp) rfl (by intro j hj; revert j; decide +kernel)
        have hsz := hS.2.1
        simp only [List.length_append, List.length_cons, List.length_nil] at hsz
        clear hd
        obtain ⟨i0, hi0, hz0, hz1, hz2⟩ := info_parts info3
        refine wp_append_row _ _ 41 rfl (w.heap.size + 1 + 1 + 1) 3 i0 _ 1 8 Try.underlying41 hi0 hz0 hz1 hz2 rfl (by decide) _ 0 [] d0 ⟨rfl, Or.inr ⟨g2, 0, #[], rfl, hg2, hh2, Nat.le_refl _, by decide, rfl, rfl⟩⟩ o3 V.length c3 (cellsV V) d1 (cellsV_len V) (fun ad e => ints_cells (e ▸ HV.out.below hS.2.2)) (oneV V) (fun e => ⟨HN1.out e, hn3 e⟩) (by unfold maxLen; omega) (by omega) (by omega) ?_
        intro v' w'' hown hgr
        refine hK _ _ (by rw [Nat.zero_add, List.nil_append] at hown; exact hown) (hS.keep ((Below.refl _ _).grown hgr (by simp; omega) (fun k hk => by simp [Value.ownBlock] at hk; simp; omega))) (fun j u hj hjk hsp hre h => ?_)
        refine phiO_int j u _ _ _ h hgr (fun g hg => ?_) (fun e => by subst e; cases hsp) hjk (fun _ g hg => ?_) (fun e => by subst e; cases hre) (fun e => by subst e; cases hre)
        · simp [Value.ownBlock] at hg; subst hg; exact ⟨_, hh2⟩
        · simp [Value.ownBlock] at hg; subst hg; exact hh2
      | 13, _, ho, hK =>
        simp only [List.getElem?_toArray, List.getElem?_cons_zero, List.getElem?_cons_succ, Option.some.injEq] at ho
        subst ho
        simp only [] at hd hK
        clear hd
        go_simp
        exact hK _ _ rfl hS (fun _ _ _ _ _ _ h => h)
      | 14, _, ho, hK =>
        simp only [List.getElem?_toArray, List.getElem?_cons_zero, List.getElem?_cons_succ, Option.some.injEq] at ho
        subst ho
        simp only [] at hd hK
        have d0 : aa.eval (.tmp 96) = .int .i64 J1 := hd ⟨13, .data⟩ (by simp) rfl (by intro j hj; revert j; decide +kernel)
        have d0 := ev_of d0
        clear hd
        have hbd := (Below.refl w'.heap.size w').alloc (Nat.le_refl _) (.cells #[.int .i64 J1] 3)
        go_simp
        exact hK _ _ ⟨w'.heap.size, rfl, heap_alloc_new _ _⟩ (hS.on hbd) (fun j u _ _ _ _ h => phiO_below j u _ _ h hbd)
      | 15, _, ho, hK =>
        simp only [List.getElem?_toArray, List.getElem?_cons_zero, List.getElem?_cons_succ, Option.some.injEq] at ho
        subst ho
        simp only [] at hd hK
        have hown5 : w'.ownsRow (w.heap.size + 1 + 1 + 1) 3 1 (aa.eval (.tmp 95)) V.length (cellsV V) := hd ⟨12, .data⟩ (by simp) rfl (by intro j hj; revert j; decide +kernel)
        obtain ⟨b7, d1, hh7⟩ : ∃ b, aa.eval (.tmp 97) = .slice (some ⟨b, 0, none⟩) 1 1 ∧ w'.heap[b]? = some (.cells #[.int .i64 J1] 3 (0, 0)) := hd ⟨14, .data⟩ (by simp) rfl (by intro j hj; revert j; decide +kernel)
        have hsz := hS.2.1
        simp only [List.length_append, List.length_cons, List.length_nil] at hsz
        clear hd
        obtain ⟨i0, hi0, hz0, hz1, hz2⟩ := info_parts info3
        refine wp_append_row _ _ 41 rfl (w.heap.size + 1 + 1 + 1) 3 i0 _ 1 8 Try.underlying41 hi0 hz0 hz1 hz2 rfl (by decide) _ V.length (cellsV V) rfl hown5 (some ⟨b7, 0, none⟩) 1 1 (cellsV [J1]) d1 (cellsV_len _) (fun ad e => by cases e; exact cells_block hh7) (oneV _) (fun e => by cases e) (by unfold maxLen; omega) (by omega) (by omega) ?_
        intro v' w'' hown hgr
        refine hK _ _ (by rw [← cellsV_app] at hown; exact hown) (hS.keep ((Below.refl _ _).grown hgr (by simp; omega) (fun k hk => by have := (ownsRow_block hown5 k hk).1; simp; omega))) (fun j u hj hjk hsp hre h => ?_)
        refine phiO_int j u _ _ _ h hgr (fun g hg => (ownsRow_block hown5 g hg).2) (fun e => by subst e; cases hsp) (fun e => by subst e; cases hsp) (fun e => by subst e; cases hsp) hjk (fun e => by subst e; cases hre)
      | 16, _, ho, hK =>
        simp only [List.getElem?_toArray, List.getElem?_cons_zero, List.getElem?_cons_succ, Option.some.injEq] at ho
        subst ho
        simp only [] at hd hK
        have d0 : aa.eval (.tmp 84) = .slice (some Bt) T.length c1 := hd ⟨1, .data⟩ (by simp) rfl (by intro j hj; revert j; decide +kernel)
        have h8 : w'.ownsRow (w.heap.size + 1 + 1 + 1) 32 5 (aa.eval (.tmp 91)) (0 + 1) (cellsP (P ++ [(⟨a, g, s, m, z⟩ : TP)])) := hd ⟨8, .data⟩ (by simp) rfl (by intro j hj; revert j; decide +kernel)
        have h15 : w'.ownsRow (w.heap.size + 1 + 1 + 1) 3 1 (aa.eval (.tmp 98)) (V.length + 1) (cellsV (V ++ [J1])) := hd ⟨15, .data⟩ (by simp) rfl (by intro j hj; revert j; decide +kernel)
        obtain ⟨gb, cb, d1, -⟩ := own_form' h8 (by omega)
        obtain ⟨gc, cc, d2, -⟩ := own_form' h15 (by omega)
        rw [d1] at h8
        rw [d2] at h15
        have H8 := hide h8
        have H15 := hide h15
        have d0 := ev_of d0
        have d1 := ev_of d1
        have d2 := ev_of d2
        clear hd h8 h15
        go_simp
        exact hK _ _ ⟨gb, cb, gc, cc, rfl, H8.out, H15.out⟩ hS (fun _ _ _ _ _ _ h => h)
      | k + 17, hk, _, _ => exact absurd hk (by omega)
    · intro vals wf hS hφ
      obtain ⟨gb, cb, gc, cc, e16, hP', hV'⟩ : ∃ gb cb gc cc, vals 16 = .agg #[.slice (some Bt) T.length c1, .slice (some ⟨gb, 0, none⟩) (0 + 1) cb, .slice (some ⟨gc, 0, none⟩) (V.length + 1) cc] ∧ wf.ownsRow (w.heap.size + 1 + 1 + 1) 32 5 (.slice (some ⟨gb, 0, none⟩) (0 + 1) cb) (0 + 1) (cellsP (P ++ [(⟨a, g, s, m, z⟩ : TP)])) ∧ wf.ownsRow (w.heap.size + 1 + 1 + 1) 3 1 (.slice (some ⟨gc, 0, none⟩) (V.length + 1) cc) (V.length + 1) (cellsV (V ++ [J1])) := hφ 16 (by decide) (by decide)
      have HBf := hide hS
      have hb1 := (ownsRow_block hP' gb rfl).1
      have hb2 := (ownsRow_block hV' gc rfl).1
      have HVf := hide (And.intro (tapsV_own hP') (intsV_own hV'))
      have r0 := hS.cell 2 0 (w.heap.size + 1 + 1) _ _ _ rfl rfl rfl
      have r1 := hS.cell 2 1 (w.heap.size + 1 + 1) _ _ _ rfl rfl rfl
      have r2 := hS.cell 2 2 (w.heap.size + 1 + 1) _ _ _ rfl rfl rfl
      have s0 := hS.frozen 2 0 (w.heap.size + 1 + 1) _ _ rfl rfl
      have s1 := hS.frozen 2 1 (w.heap.size + 1 + 1) _ _ rfl rfl
      have s2 := hS.frozen 2 2 (w.heap.size + 1 + 1) _ _ rfl rfl
      clear hφ hS hP' hV' HG1w4
      simp only [putsD, Nat.zero_add, Nat.reduceAdd, e16]
      clear e16
      refine one_ready (i := 19) (by kernel_rfl) rfl rfl (fun K hK => ?_)
      go_simp
      have HLg : Hid (Led3 (((wf.setCell ⟨w.heap.size + 1 + 1, 0, none⟩ (.slice (some Bt) T.length c1)).setCell ⟨w.heap.size + 1 + 1, 1, none⟩ (.slice (some ⟨gb, 0, none⟩) (0 + 1) cb)).setCell ⟨w.heap.size + 1 + 1, 2, none⟩ (.slice (some ⟨gc, 0, none⟩) (V.length + 1) cc)) (w.heap.size + 1 + 1) (some Bt) (some ⟨gb, 0, none⟩) (some ⟨gc, 0, none⟩) T.length c1 (0 + 1) cb (V.length + 1) cc) := by
        refine hide ⟨?_, ?_, ?_⟩
        all_goals simp [go_sem, r0, r1, r2]
      have HBg : Hid (Below w.heap.size w (((wf.setCell ⟨w.heap.size + 1 + 1, 0, none⟩ (.slice (some Bt) T.length c1)).setCell ⟨w.heap.size + 1 + 1, 1, none⟩ (.slice (some ⟨gb, 0, none⟩) (0 + 1) cb)).setCell ⟨w.heap.size + 1 + 1, 2, none⟩ (.slice (some ⟨gc, 0, none⟩) (V.length + 1) cc))) :=
        hide (((HBf.out.2.2.setCell (p := ⟨w.heap.size + 1 + 1, 0, none⟩) (by simp; omega) _).setCell (p := ⟨w.heap.size + 1 + 1, 1, none⟩) (by simp; omega) _).setCell (p := ⟨w.heap.size + 1 + 1, 2, none⟩) (by simp; omega) _)
      have HVg : Hid (LedV (((wf.setCell ⟨w.heap.size + 1 + 1, 0, none⟩ (.slice (some Bt) T.length c1)).setCell ⟨w.heap.size + 1 + 1, 1, none⟩ (.slice (some ⟨gb, 0, none⟩) (0 + 1) cb)).setCell ⟨w.heap.size + 1 + 1, 2, none⟩ (.slice (some ⟨gc, 0, none⟩) (V.length + 1) cc)) (lg (some Bt) (some ⟨gb, 0, none⟩) (some ⟨gc, 0, none⟩) T.length c1 (0 + 1) cb (V.length + 1) cc) T (P ++ [(⟨a, g, s, m, z⟩ : TP)]) (V ++ [J1])) := by
        obtain ⟨b1, d1⟩ := HVf.out
        have b2 : Fresh (w.heap.size + 1 + 1 + 1) (.slice (some ⟨gb, 0, none⟩) (0 + 1) cb) := fun k hk => by simp [Value.ownBlock] at hk; omega
        have d2 : Fresh (w.heap.size + 1 + 1 + 1) (.slice (some ⟨gc, 0, none⟩) (V.length + 1) cc) := fun k hk => by simp [Value.ownBlock] at hk; omega
        exact hide ⟨_, _, _, rfl, ⟨_, _, rfl, HT.out.below HBg.out, hc1, fun e => by cases e⟩, ((b1.set b2 (by simp) _).set b2 (by simp) _).set b2 (by simp) _, ((d1.set d2 (by simp) _).set d2 (by simp) _).set d2 (by simp) _⟩
      refine hK _ _ ?_
      clear hK K HVf HBf r0 r1 r2 s0 s1 s2
      generalize ((wf.setCell ⟨w.heap.size + 1 + 1, 0, none⟩ (.slice (some Bt) T.length c1)).setCell ⟨w.heap.size + 1 + 1, 1, none⟩ (.slice (some ⟨gb, 0, none⟩) (0 + 1) cb)).setCell ⟨w.heap.size + 1 + 1, 2, none⟩ (.slice (some ⟨gc, 0, none⟩) (V.length + 1) cc) = wg at *
      refine one_ready (i := 20) (by kernel_rfl) rfl rfl (fun K hK => ?_)
      go_simp
      refine hK _ _ ?_
      clear hK K
      refine one_ready (i := 21) (by kernel_rfl) rfl rfl (fun K hK => ?_)
      go_simp
      refine hK _ _ ?_
      clear hK K
      refine wpAny_done (by kernel_rfl) ?_ _
      obtain ⟨g0, g1, g2⟩ := HLg.out
      go_wp2_with fail
      refine bodyPost_ret (v := .tuple #[lg (some Bt) (some ⟨gb, 0, none⟩) (some ⟨gc, 0, none⟩) T.length c1 (0 + 1) cb (V.length + 1) cc, .int .i64 J1, .int .i64 0]) (by simp [results, Try.results23, go_sem, g0, g1, g2]) rfl ⟨⟨_, rfl, ?_⟩, HBg.out⟩
      exact HVg.out
  · have HQ := hide hq
    have hmm : ¬ m < q.m := hm
    have HN := hide hn
    have HLP := hide hn
    have h60 : ((n : Int) + 1 == 60) = false := by simp; omega
    rw [hn] at hlP HZ HM ⊢
    clear hq hn hm h60'
    go_enter Try.func23, Try.ntmps23
    go_wp2_with fail
    have HG1 := hide ((((Blks.nil w).more (.cells #[.slice o1 T.length c1, .slice o2 (n + 1) c2, .slice o3 V.length c3] 43) (by simp)).more (.cells #[.int .i64 a, .int .i64 g, .int .i64 s, .int .i64 m, .int .i64 z] 32) (by simp)).more (.cells #[.slice none 0 0, .slice none 0 0, .slice none 0 0] 43) (by simp))
    refine (HX.out _).mono ?_
    rintro e w1 ⟨rfl, hb⟩
    have HG1w1 := hide (HG1.out.on hb)
    clear hb HG1
    have lG1_0 := HG1w1.out.lt 0 w.heap.size (by simp) rfl
    have cG1_0_0 := HG1w1.out.cell 0 0 w.heap.size _ _ _ rfl rfl rfl
    have cG1_0_1 := HG1w1.out.cell 0 1 w.heap.size _ _ _ rfl rfl rfl
    have cG1_0_2 := HG1w1.out.cell 0 2 w.heap.size _ _ _ rfl rfl rfl
    have lG1_1 := HG1w1.out.lt 1 (w.heap.size + 1) (by simp) rfl
    have cG1_1_0 := HG1w1.out.cell 1 0 (w.heap.size + 1) _ _ _ rfl rfl rfl
    have cG1_1_1 := HG1w1.out.cell 1 1 (w.heap.size + 1) _ _ _ rfl rfl rfl
    have cG1_1_2 := HG1w1.out.cell 1 2 (w.heap.size + 1) _ _ _ rfl rfl rfl
    have cG1_1_3 := HG1w1.out.cell 1 3 (w.heap.size + 1) _ _ _ rfl rfl rfl
    have cG1_1_4 := HG1w1.out.cell 1 4 (w.heap.size + 1) _ _ _ rfl rfl rfl
    have lG1_2 := HG1w1.out.lt 2 (w.heap.size + 1 + 1) (by simp) rfl
    have cG1_2_0 := HG1w1.out.cell 2 0 (w.heap.size + 1 + 1) _ _ _ rfl rfl rfl
    have fG1_2_0 := HG1w1.out.frozen 2 0 (w.heap.size + 1 + 1) _ _ rfl rfl
    have cG1_2_1 := HG1w1.out.cell 2 1 (w.heap.size + 1 + 1) _ _ _ rfl rfl rfl
    have fG1_2_1 := HG1w1.out.frozen 2 1 (w.heap.size + 1 + 1) _ _ rfl rfl
    have cG1_2_2 := HG1w1.out.cell 2 2 (w.heap.size + 1 + 1) _ _ _ rfl rfl rfl
    have fG1_2_2 := HG1w1.out.frozen 2 2 (w.heap.size + 1 + 1) _ _ rfl rfl
    go_wp2_with fail
    refine (ticketAt_any o1 _ T _ _ (HT.out.below HG1w1.out.2.2) (by omega)).mono ?_
    rintro e w1' ⟨rfl, hw1⟩
    obtain rfl := hw1.symm
    clear hw1
    rw [hi]
    have hk0 : ¬ ((k : Int) < 0) := by omega
    go_wp2_with fail
    refine (HZ.out _ (HP.out.below HG1w1.out.2.2)).mono ?_
    rintro e w2 ⟨rfl, hb⟩
    have HG1w2 := hide (HG1w1.out.on hb)
    clear lG1_0 cG1_0_0 cG1_0_1 cG1_0_2 lG1_1 cG1_1_0 cG1_1_1 cG1_1_2 cG1_1_3 cG1_1_4 lG1_2 cG1_2_0 fG1_2_0 cG1_2_1 fG1_2_1 cG1_2_2 fG1_2_2
    clear hb HG1w1
    have lG1_0 := HG1w2.out.lt 0 w.heap.size (by simp) rfl
    have cG1_0_0 := HG1w2.out.cell 0 0 w.heap.size _ _ _ rfl rfl rfl
    have cG1_0_1 := HG1w2.out.cell 0 1 w.heap.size _ _ _ rfl rfl rfl
    have cG1_0_2 := HG1w2.out.cell 0 2 w.heap.size _ _ _ rfl rfl rfl
    have lG1_1 := HG1w2.out.lt 1 (w.heap.size + 1) (by simp) rfl
    have cG1_1_0 := HG1w2.out.cell 1 0 (w.heap.size + 1) _ _ _ rfl rfl rfl
    have cG1_1_1 := HG1w2.out.cell 1 1 (w.heap.size + 1) _ _ _ rfl rfl rfl
    have cG1_1_2 := HG1w2.out.cell 1 2 (w.heap.size + 1) _ _ _ rfl rfl rfl
    have cG1_1_3 := HG1w2.out.cell 1 3 (w.heap.size + 1) _ _ _ rfl rfl rfl
    have cG1_1_4 := HG1w2.out.cell 1 4 (w.heap.size + 1) _ _ _ rfl rfl rfl
    have lG1_2 := HG1w2.out.lt 2 (w.heap.size + 1 + 1) (by simp) rfl
    have cG1_2_0 := HG1w2.out.cell 2 0 (w.heap.size + 1 + 1) _ _ _ rfl rfl rfl
    have fG1_2_0 := HG1w2.out.frozen 2 0 (w.heap.size + 1 + 1) _ _ rfl rfl
    have cG1_2_1 := HG1w2.out.cell 2 1 (w.heap.size + 1 + 1) _ _ _ rfl rfl rfl
    have fG1_2_1 := HG1w2.out.frozen 2 1 (w.heap.size + 1 + 1) _ _ rfl rfl
    have cG1_2_2 := HG1w2.out.cell 2 2 (w.heap.size + 1 + 1) _ _ _ rfl rfl rfl
    have fG1_2_2 := HG1w2.out.frozen 2 2 (w.heap.size + 1 + 1) _ _ rfl rfl
    obtain ⟨A, rfl, e0, e1, e2, e3, e4⟩ := (HP.out.below HG1w2.out.2.2) n q HQ.out
    go_wp2_with fail
    go_region
    go_wp2_with fail
    refine (HM.out _ (HP.out.below HG1w2.out.2.2.drew) (HV.out.below HG1w2.out.2.2.drew)).mono ?_
    rintro e w3 ⟨rfl, hb⟩
    have HG1w3 := hide ((HG1w2.out.on ((Below.refl _ _).drew)).on hb)
    clear lG1_0 cG1_0_0 cG1_0_1 cG1_0_2 lG1_1 cG1_1_0 cG1_1_1 cG1_1_2 cG1_1_3 cG1_1_4 lG1_2 cG1_2_0 fG1_2_0 cG1_2_1 fG1_2_1 cG1_2_2 fG1_2_2 e0 e1 e2 e3 e4
    clear hb HG1w2
    have lG1_0 := HG1w3.out.lt 0 w.heap.size (by simp) rfl
    have cG1_0_0 := HG1w3.out.cell 0 0 w.heap.size _ _ _ rfl rfl rfl
    have cG1_0_1 := HG1w3.out.cell 0 1 w.heap.size _ _ _ rfl rfl rfl
    have cG1_0_2 := HG1w3.out.cell 0 2 w.heap.size _ _ _ rfl rfl rfl
    have lG1_1 := HG1w3.out.lt 1 (w.heap.size + 1) (by simp) rfl
    have cG1_1_0 := HG1w3.out.cell 1 0 (w.heap.size + 1) _ _ _ rfl rfl rfl
    have cG1_1_1 := HG1w3.out.cell 1 1 (w.heap.size + 1) _ _ _ rfl rfl rfl
    have cG1_1_2 := HG1w3.out.cell 1 2 (w.heap.size + 1) _ _ _ rfl rfl rfl
    have cG1_1_3 := HG1w3.out.cell 1 3 (w.heap.size + 1) _ _ _ rfl rfl rfl
    have cG1_1_4 := HG1w3.out.cell 1 4 (w.heap.size + 1) _ _ _ rfl rfl rfl
    have lG1_2 := HG1w3.out.lt 2 (w.heap.size + 1 + 1) (by simp) rfl
    have cG1_2_0 := HG1w3.out.cell 2 0 (w.heap.size + 1 + 1) _ _ _ rfl rfl rfl
    have cG1_2_1 := HG1w3.out.cell 2 1 (w.heap.size + 1 + 1) _ _ _ rfl rfl rfl
    have cG1_2_2 := HG1w3.out.cell 2 2 (w.heap.size + 1 + 1) _ _ _ rfl rfl rfl
    obtain ⟨Bt, hBt, k0, k1, k2, k3, k4, k5⟩ := (HT.out.below HG1w3.out.2.2) k x HTX.out
    subst hBt
    go_wp2_with fail
    have q0 := cell_regrown cG1_0_0
    have q1 := cell_regrown cG1_0_1
    have q2 := cell_regrown cG1_0_2
    have q3 := cell_regrown cG1_1_0
    have q4 := cell_regrown cG1_1_1
    have q5 := cell_regrown cG1_1_2
    have q6 := cell_regrown cG1_1_3
    have q7 := cell_regrown cG1_1_4
    have q8 := cell_regrown k0
    have q9 := cell_regrown k1
    have q10 := cell_regrown k2
    have q11 := cell_regrown k3
    have q12 := cell_regrown k4
    have q13 := cell_regrown k5
    have cJ : ∀ d os, Calls Try.prog 14 #[tk x.i x.k x.f x.t x.z x.r, .int .i64 M2, .int .i64 M1, tp a g s m z] (Sort.grow (redrawn w3 d) os) fun e w'' => e = .returned (.tuple #[.int .i64 J1, .int .i64 0]) ∧ ∃ p : Regrown, w'' = Sort.grow (redrawn w3 p.d) p.os :=
      fun d os => Calls.regrown_of (HJ.out _)
    refine wp_region_quiet_below (by kernel_rfl) (by kernel_rfl) ?_
    repeat (quiet_step (exact cJ _ _))
    refine wpQuiet_nil ?_
    intro _ hw'
    obtain ⟨⟨dq, osq⟩, hw''⟩ := hw'
    subst hw''
    have hbw := below_regrown w3 dq osq
    have HG1w4 := hide (HG1w3.out.on hbw)
    clear lG1_0 cG1_0_0 cG1_0_1 cG1_0_2 lG1_1 cG1_1_0 cG1_1_1 cG1_1_2 cG1_1_3 cG1_1_4 lG1_2 cG1_2_0 cG1_2_1 cG1_2_2
    clear hbw HG1w3 cJ k0 k1 k2 k3 k4 k5 q0 q1 q2 q3 q4 q5 q6 q7 q8 q9 q10 q11 q12 q13
    generalize Sort.grow (redrawn w3 dq) osq = w4 at *
    have lG1_0 := HG1w4.out.lt 0 w.heap.size (by simp) rfl
    have cG1_0_0 := HG1w4.out.cell 0 0 w.heap.size _ _ _ rfl rfl rfl
    have cG1_0_1 := HG1w4.out.cell 0 1 w.heap.size _ _ _ rfl rfl rfl
    have cG1_0_2 := HG1w4.out.cell 0 2 w.heap.size _ _ _ rfl rfl rfl
    have lG1_1 := HG1w4.out.lt 1 (w.heap.size + 1) (by simp) rfl
    have cG1_1_0 := HG1w4.out.cell 1 0 (w.heap.size + 1) _ _ _ rfl rfl rfl
    have cG1_1_1 := HG1w4.out.cell 1 1 (w.heap.size + 1) _ _ _ rfl rfl rfl
    have cG1_1_2 := HG1w4.out.cell 1 2 (w.heap.size + 1) _ _ _ rfl rfl rfl
    have cG1_1_3 := HG1w4.out.cell 1 3 (w.heap.size + 1) _ _ _ rfl rfl rfl
    have cG1_1_4 := HG1w4.out.cell 1 4 (w.heap.size + 1) _ _ _ rfl rfl rfl
    have lG1_2 := HG1w4.out.lt 2 (w.heap.size + 1 + 1) (by simp) rfl
    have cG1_2_0 := HG1w4.out.cell 2 0 (w.heap.size + 1 + 1) _ _ _ rfl rfl rfl
    have fG1_2_0 := HG1w4.out.frozen 2 0 (w.heap.size + 1 + 1) _ _ rfl rfl
    have cG1_2_1 := HG1w4.out.cell 2 1 (w.heap.size + 1 + 1) _ _ _ rfl rfl rfl
    have fG1_2_1 := HG1w4.out.frozen 2 1 (w.heap.size + 1 + 1) _ _ rfl rfl
    have cG1_2_2 := HG1w4.out.cell 2 2 (w.heap.size + 1 + 1) _ _ _ rfl rfl rfl
    have fG1_2_2 := HG1w4.out.frozen 2 2 (w.heap.size + 1 + 1) _ _ rfl rfl
    go_wp2_with fail
    clear lG1_0 cG1_0_0 cG1_0_1 cG1_0_2 lG1_1 cG1_1_0 cG1_1_1 cG1_1_2 cG1_1_3 cG1_1_4 lG1_2 cG1_2_0 fG1_2_0 cG1_2_1 fG1_2_1 cG1_2_2 fG1_2_2
    clear HX HJ HM HZ HTX
    refine wp_region_any (by kernel_rfl) ?_
    refine wpAny_take (i := 17) (v := .int .i64 J1) (fuel := 21) rfl (by kernel_rfl) (by kernel_rfl) (by kernel_rfl) (fun c a w h => h) (.inl ⟨rfl, fun w => by go_simp⟩) ?_
    refine wpAny_take (i := 18) (v := .int .i64 0) (fuel := 20) rfl (by kernel_rfl) (by kernel_rfl) (by kernel_rfl) (fun c a w h => h) (.inl ⟨rfl, fun w => by go_simp⟩) ?_
    refine wpAny_makersS spoilO reachO (fun w' => Blks w w' ([] ++ [.cells #[.slice (some Bt) T.length c1, .slice (some A) (n + 1) c2, .slice o3 V.length c3] 43] ++ [.cells #[.int .i64 a, .int .i64 g, .int .i64 s, .int .i64 m, .int .i64 z] 32] ++ [.cells #[.slice none 0 0, .slice none 0 0, .slice none 0 0] 43])) (phiO w.heap.size (w.heap.size + 1 + 1 + 1) (n + 1) (some Bt) (some A) o3 c1 c2 c3 T P V ⟨a, g, s, m, z⟩ J1) 17 3 #[true, true, false, false, false] [83, 84, 85, 86, 87, 88, 89, 90, 91, 92, 93, 94, 95, 96, 97, 98, 99] (by kernel_rfl) (by kernel_rfl) (by kernel_rfl) (by kernel_rfl) (by kernel_rfl) 102 rfl (by kernel_rfl) ?_ ?_ ?_
    · exact HG1w4.out.on (Below.refl _ _).drew
    · clear HG1w4
      intro k o hk ho aa w' hS hd hb K' hK
      have b2 : aa.tmps[2]?.getD undef = .pointer (some ⟨w.heap.size, 0, none⟩) := ev_of ((hb 2 (by intro j hj; revert j; decide +kernel)).trans rfl)
      have b3 : aa.tmps[3]?.getD undef = .pointer (some ⟨w.heap.size + 1, 0, none⟩) := ev_of ((hb 3 (by intro j hj; revert j; decide +kernel)).trans rfl)
      have b12 : aa.tmps[12]?.getD undef = .int .i64 J1 := ev_of ((hb 12 (by intro j hj; revert j; decide +kernel)).trans rfl)
      clear hb
      match k, hk, ho, hK with
      | 0, _, ho, hK =>
        simp only [List.getElem?_toArray, List.getElem?_cons_zero, Option.some.injEq] at ho
        subst ho
        simp only [] at hd hK
        clear hd
        go_simp
        exact hK _ _ rfl hS (fun _ _ _ _ _ _ h => h)
      | 1, _, ho, hK =>
        simp only [List.getElem?_toArray, List.getElem?_cons_zero, List.getElem?_cons_succ, Option.some.injEq] at ho
        subst ho
        simp only [] at hd hK
        have d0 : aa.eval (.tmp 83) = .pointer (some ⟨w.heap.size, 0, none⟩) := hd ⟨0, .data⟩ (by simp) rfl (by intro j hj; revert j; decide +kernel)
        have d0 := ev_of d0
        have x0 := hS.cell 0 0 w.heap.size _ _ _ rfl rfl rfl
        have x1 := hS.cell 0 1 w.heap.size _ _ _ rfl rfl rfl
        have x2 := hS.cell 0 2 w.heap.size _ _ _ rfl rfl rfl
        have y0 := hS.cell 1 0 (w.heap.size + 1) _ _ _ rfl rfl rfl
        have y1 := hS.cell 1 1 (w.heap.size + 1) _ _ _ rfl rfl rfl
        have y2 := hS.cell 1 2 (w.heap.size + 1) _ _ _ rfl rfl rfl
        have y3 := hS.cell 1 3 (w.heap.size + 1) _ _ _ rfl rfl rfl
        have y4 := hS.cell 1 4 (w.heap.size + 1) _ _ _ rfl rfl rfl
        clear hd
        go_simp
        exact hK _ _ rfl hS (fun _ _ _ _ _ _ h => h)
      | 2, _, ho, hK =>
        simp only [List.getElem?_toArray, List.getElem?_cons_zero, List.getElem?_cons_succ, Option.some.injEq] at ho
        subst ho
        simp only [] at hd hK
        clear hd
        have hbd := (Below.refl w'.heap.size w').alloc (Nat.le_refl _) (.cells #[] 32)
        have hsz := hS.2.1
        simp only [List.length_append, List.length_cons, List.length_nil] at hsz
        go_simp
        exact hK _ _ ⟨w'.heap.size, rfl, by omega, heap_alloc_new _ _⟩ (hS.on hbd) (fun j u _ _ _ _ h => phiO_below j u _ _ h hbd)
      | 3, _, ho, hK =>
        simp only [List.getElem?_toArray, List.getElem?_cons_zero, List.getElem?_cons_succ, Option.some.injEq] at ho
        subst ho
        simp only [] at hd hK
        clear hd
        go_simp
        exact hK _ _ rfl hS (fun _ _ _ _ _ _ h => h)
      | 4, _, ho, hK =>
        simp only [List.getElem?_toArray, List.getElem?_cons_zero, List.getElem?_cons_succ, Option.some.injEq] at ho
        subst ho
        simp only [] at hd hK
        have d0 : aa.eval (.tmp 86) = .pointer (some ⟨w.heap.size, 1, none⟩) := hd ⟨3, .data⟩ (by simp) rfl (by intro j hj; revert j; decide +kernel)
        have d0 := ev_of d0
        have x0 := hS.cell 0 0 w.heap.size _ _ _ rfl rfl rfl
        have x1 := hS.cell 0 1 w.heap.size _ _ _ rfl rfl rfl
        have x2 := hS.cell 0 2 w.heap.size _ _ _ rfl rfl rfl
        have y0 := hS.cell 1 0 (w.heap.size + 1) _ _ _ rfl rfl rfl
        have y1 := hS.cell 1 1 (w.heap.size + 1) _ _ _ rfl rfl rfl
        have y2 := hS.cell 1 2 (w.heap.size + 1) _ _ _ rfl rfl rfl
        have y3 := hS.cell 1 3 (w.heap.size + 1) _ _ _ rfl rfl rfl
        have y4 := hS.cell 1 4 (w.heap.size + 1) _ _ _ rfl rfl rfl
        clear hd
        go_simp
        exact hK _ _ rfl hS (fun _ _ _ _ _ _ h => h)
      | 5, _, ho, hK =>
        simp only [List.getElem?_toArray, List.getElem?_cons_zero, List.getElem?_cons_succ, Option.some.injEq] at ho
        subst ho
        simp only [] at hd hK
        obtain ⟨g2, d0, hg2, hh2⟩ : ∃ g, aa.eval (.tmp 85) = .slice (some ⟨g, 0, none⟩) 0 0 ∧ w.heap.size + 1 + 1 + 1 ≤ g ∧ w'.heap[g]? = some (.cells #[] 32 (0, 0)) := hd ⟨2, .data⟩ (by simp) rfl (by intro j hj; revert j; decide +kernel)
        have d1 : aa.eval (.tmp 87) = .slice (some A) (n + 1) c2 := hd ⟨4, .data⟩ (by simp) rfl (by intro j hj; revert j; decide +kernel)
        have hsz := hS.2.1
        simp only [List.length_append, List.length_cons, List.length_nil] at hsz
        clear hd
        obtain ⟨i0, hi0, hz0, hz1, hz2⟩ := info_parts info32
        refine wp_append_row _ _ 30 rfl (w.heap.size + 1 + 1 + 1) 32 i0 _ 5 40 Try.underlying30 hi0 hz0 hz1 hz2 rfl (by decide) _ 0 [] d0 ⟨rfl, Or.inr ⟨g2, 0, #[], rfl, hg2, hh2, Nat.le_refl _, by decide, rfl, rfl⟩⟩ (some A) (n + 1) c2 (cellsP P) d1 (by rw [cellsP_len, HLP.out]) (fun ad e => taps_cells (e ▸ HP.out.below hS.2.2)) (oneP P) (fun e => by cases e) (by unfold maxLen; omega) (by omega) (by omega) ?_
        intro v' w'' hown hgr
        refine hK _ _ (by rw [Nat.zero_add, List.nil_append] at hown; exact hown) (hS.keep ((Below.refl _ _).grown hgr (by simp; omega) (fun k hk => by simp [Value.ownBlock] at hk; simp; omega))) (fun j u hj hjk hsp hre h => ?_)
        refine phiO_tap j u _ _ _ h hgr (fun g hg => ?_) (fun e => by subst e; cases hsp) hjk (fun _ g hg => ?_) (fun e => by subst e; cases hre) (fun e => by subst e; cases hre)
        · simp [Value.ownBlock] at hg; subst hg; exact ⟨_, hh2⟩
        · simp [Value.ownBlock] at hg; subst hg; exact hh2
      | 6, _, ho, hK =>
        simp only [List.getElem?_toArray, List.getElem?_cons_zero, List.getElem?_cons_succ, Option.some.injEq] at ho
        subst ho
        simp only [] at hd hK
        have x0 := hS.cell 0 0 w.heap.size _ _ _ rfl rfl rfl
        have x1 := hS.cell 0 1 w.heap.size _ _ _ rfl rfl rfl
        have x2 := hS.cell 0 2 w.heap.size _ _ _ rfl rfl rfl
        have y0 := hS.cell 1 0 (w.heap.size + 1) _ _ _ rfl rfl rfl
        have y1 := hS.cell 1 1 (w.heap.size + 1) _ _ _ rfl rfl rfl
        have y2 := hS.cell 1 2 (w.heap.size + 1) _ _ _ rfl rfl rfl
        have y3 := hS.cell 1 3 (w.heap.size + 1) _ _ _ rfl rfl rfl
        have y4 := hS.cell 1 4 (w.heap.size + 1) _ _ _ rfl rfl rfl
        clear hd
        go_simp
        exact hK _ _ rfl hS (fun _ _ _ _ _ _ h => h)
      | 7, _, ho, hK =>
        simp only [List.getElem?_toArray, List.getElem?_cons_zero, List.getElem?_cons_succ, Option.some.injEq] at ho
        subst ho
        simp only [] at hd hK
        have d0 : aa.eval (.tmp 89) = tp a g s m z := hd ⟨6, .data⟩ (by simp) rfl (by intro j hj; revert j; decide +kernel)
        have d0 := ev_of d0
        clear hd
        have hbd := (Below.refl w'.heap.size w').alloc (Nat.le_refl _) (cP a g s m z 32)
        go_simp
        exact hK _ _ ⟨w'.heap.size, rfl, heap_alloc_new _ _⟩ (hS.on hbd) (fun j u _ _ _ _ h => phiO_below j u _ _ h hbd)
      | 8, _, ho, hK =>
        simp only [List.getElem?_toArray, List.getElem?_cons_zero, List.getElem?_cons_succ, Option.some.injEq] at ho
        subst ho
        simp only [] at hd hK
        have hown5 : w'.ownsRow (w.heap.size + 1 + 1 + 1) 32 5 (aa.eval (.tmp 88)) (n + 1) (cellsP P) := hd ⟨5, .data⟩ (by simp) rfl (by intro j hj; revert j; decide +kernel)
        obtain ⟨b7, d1, hh7⟩ : ∃ b, aa.eval (.tmp 90) = .slice (some ⟨b, 0, none⟩) 1 1 ∧ w'.heap[b]? = some (.cells #[.int .i64 a, .int .i64 g, .int .i64 s, .int .i64 m, .int .i64 z] 32 (0, 0)) := hd ⟨7, .data⟩ (by simp) rfl (by intro j hj; revert j; decide +kernel)
        have hsz := hS.2.1
        simp only [List.length_append, List.length_cons, List.length_nil] at hsz
        clear hd
        obtain ⟨i0, hi0, hz0, hz1, hz2⟩ := info_parts info32
        refine wp_append_row _ _ 30 rfl (w.heap.size + 1 + 1 + 1) 32 i0 _ 5 40 Try.underlying30 hi0 hz0 hz1 hz2 rfl (by decide) _ (n + 1) (cellsP P) rfl hown5 (some ⟨b7, 0, none⟩) 1 1 (cellsP [(⟨a, g, s, m, z⟩ : TP)]) d1 (cellsP_len _) (fun ad e => by cases e; exact cells_block hh7) (oneP _) (fun e => by cases e) (by unfold maxLen; omega) (by omega) (by omega) ?_
        intro v' w'' hown hgr
        refine hK _ _ (by rw [← cellsP_app] at hown; exact hown) (hS.keep ((Below.refl _ _).grown hgr (by simp; omega) (fun k hk => by have := (ownsRow_block hown5 k hk).1; simp; omega))) (fun j u hj hjk hsp hre h => ?_)
        refine phiO_tap j u _ _ _ h hgr (fun g hg => (ownsRow_block hown5 g hg).2) (fun e => by subst e; cases hsp) (fun e => by subst e; cases hsp) (fun e => by subst e; cases hsp) hjk (fun e => by subst e; cases hre)
      | 9, _, ho, hK =>
        simp only [List.getElem?_toArray, List.getElem?_cons_zero, List.getElem?_cons_succ, Option.some.injEq] at ho
        subst ho
        simp only [] at hd hK
        clear hd
        have hbd := (Below.refl w'.heap.size w').alloc (Nat.le_refl _) (.cells #[] 3)
        have hsz := hS.2.1
        simp only [List.length_append, List.length_cons, List.length_nil] at hsz
        go_simp
        exact hK _ _ ⟨w'.heap.size, rfl, by omega, heap_alloc_new _ _⟩ (hS.on hbd) (fun j u _ _ _ _ h => phiO_below j u _ _ h hbd)
      | 10, _, ho, hK =>
        simp only [List.getElem?_toArray, List.getElem?_cons_zero, List.getElem?_cons_succ, Option.some.injEq] at ho
        subst ho
        simp only [] at hd hK
        clear hd
        go_simp
        exact hK _ _ rfl hS (fun _ _ _ _ _ _ h => h)
      | 11, _, ho, hK =>
        simp only [List.getElem?_toArray, List.getElem?_cons_zero, List.getElem?_cons_succ, Option.some.injEq] at ho
        subst ho
        simp only [] at hd hK
        have d0 : aa.eval (.tmp 93) = .pointer (some ⟨w.heap.size, 2, none⟩) := hd ⟨10, .data⟩ (by simp) rfl (by intro j hj; revert j; decide +kernel)
        have d0 := ev_of d0
        have x0 := hS.cell 0 0 w.heap.size _ _ _ rfl rfl rfl
        have x1 := hS.cell 0 1 w.heap.size _ _ _ rfl rfl rfl
        have x2 := hS.cell 0 2 w.heap.size _ _ _ rfl rfl rfl
        have y0 := hS.cell 1 0 (w.heap.size + 1) _ _ _ rfl rfl rfl
        have y1 := hS.cell 1 1 (w.heap.size + 1) _ _ _ rfl rfl rfl
        have y2 := hS.cell 1 2 (w.heap.size + 1) _ _ _ rfl rfl rfl
        have y3 := hS.cell 1 3 (w.heap.size + 1) _ _ _ rfl rfl rfl
        have y4 := hS.cell 1 4 (w.heap.size + 1) _ _ _ rfl rfl rfl
        clear hd
        go_simp
        exact hK _ _ rfl hS (fun _ _ _ _ _ _ h => h)
      | 12, _, ho, hK =>
        simp only [List.getElem?_toArray, List.getElem?_cons_zero, List.getElem?_cons_succ, Option.some.injEq] at ho
        subst ho
        simp only [] at hd hK
        obtain ⟨g2, d0, hg2, hh2⟩ : ∃ g, aa.eval (.tmp 92) = .slice (some ⟨g, 0, none⟩) 0 0 ∧ w.heap.size + 1 + 1 + 1 ≤ g ∧ w'.heap[g]? = some (.cells #[] 3 (0, 0)) := hd ⟨9, .data⟩ (by simp) rfl (by intro j hj; revert j; decide +kernel)
        have d1 : aa.eval (.tmp 94) = .slice o3 V.length c3 := hd ⟨11, .data⟩ (by simp) rfl (by intro j hj; revert j; decide +kernel)
        have hsz := hS.2.1
        simp only [List.length_append, List.length_cons, List.length_nil] at hsz
        clear hd
        obtain ⟨i0, hi0, hz0, hz1, hz2⟩ := info_parts info3
        refine wp_append_row _ _ 41 rfl (w.heap.size + 1 + 1 + 1) 3 i0 _ 1 8 Try.underlying41 hi0 hz0 hz1 hz2 rfl (by decide) _ 0 [] d0 ⟨rfl, Or.inr ⟨g2, 0, #[], rfl, hg2, hh2, Nat.le_refl _, by decide, rfl, rfl⟩⟩ o3 V.length c3 (cellsV V) d1 (cellsV_len V) (fun ad e => ints_cells (e ▸ HV.out.below hS.2.2)) (oneV V) (fun e => ⟨HN1.out e, hn3 e⟩) (by unfold maxLen; omega) (by omega) (by omega) ?_
        intro v' w'' hown hgr
        refine hK _ _ (by rw [Nat.zero_add, List.nil_append] at hown; exact hown) (hS.keep ((Below.refl _ _).grown hgr (by simp; omega) (fun k hk => by simp [Value.ownBlock] at hk; simp; omega))) (fun j u hj hjk hsp hre h => ?_)
        refine phiO_int j u _ _ _ h hgr (fun g hg => ?_) (fun e => by subst e; cases hsp) hjk (fun _ g hg => ?_) (fun e => by subst e; cases hre) (fun e => by subst e; cases hre)
        · simp [Value.ownBlock] at hg; subst hg; exact ⟨_, hh2⟩
        · simp [Value.ownBlock] at hg; subst hg; exact hh2
      | 13, _, ho, hK =>
        simp only [List.getElem?_toArray, List.getElem?_cons_zero, List.getElem?_cons_succ, Option.some.injEq] at ho
        subst ho
        simp only [] at hd hK
        clear hd
        go_simp
        exact hK _ _ rfl hS (fun _ _ _ _ _ _ h => h)
      | 14, _, ho, hK =>
        simp only [List.getElem?_toArray, List.getElem?_cons_zero, List.getElem?_cons_succ, Option.some.injEq] at ho
        subst ho
        simp only [] at hd hK
        have d0 : aa.eval (.tmp 96) = .int .i64 J1 := hd ⟨13, .data⟩ (by simp) rfl (by intro j hj; revert j; decide +kernel)
        have d0 := ev_of d0
        clear hd
        have hbd := (Below.refl w'.heap.size w').alloc (Nat.le_refl _) (.cells #[.int .i64 J1] 3)
        go_simp
        exact hK _ _ ⟨w'.heap.size, rfl, heap_alloc_new _ _⟩ (hS.on hbd) (fun j u _ _ _ _ h => phiO_below j u _ _ h hbd)
      | 15, _, ho, hK =>
        simp only [List.getElem?_toArray, List.getElem?_cons_zero, List.getElem?_cons_succ, Option.some.injEq] at ho
        subst ho
        simp only [] at hd hK
        have hown5 : w'.ownsRow (w.heap.size + 1 + 1 + 1) 3 1 (aa.eval (.tmp 95)) V.length (cellsV V) := hd ⟨12, .data⟩ (by simp) rfl (by intro j hj; revert j; decide +kernel)
        obtain ⟨b7, d1, hh7⟩ : ∃ b, aa.eval (.tmp 97) = .slice (some ⟨b, 0, none⟩) 1 1 ∧ w'.heap[b]? = some (.cells #[.int .i64 J1] 3 (0, 0)) := hd ⟨14, .data⟩ (by simp) rfl (by intro j hj; revert j; decide +kernel)
        have hsz := hS.2.1
        simp only [List.length_append, List.length_cons, List.length_nil] at hsz
        clear hd
        obtain ⟨i0, hi0, hz0, hz1, hz2⟩ := info_parts info3
        refine wp_append_row _ _ 41 rfl (w.heap.size + 1 + 1 + 1) 3 i0 _ 1 8 Try.underlying41 hi0 hz0 hz1 hz2 rfl (by decide) _ V.length (cellsV V) rfl hown5 (some ⟨b7, 0, none⟩) 1 1 (cellsV [J1]) d1 (cellsV_len _) (fun ad e => by cases e; exact cells_block hh7) (oneV _) (fun e => by cases e) (by unfold maxLen; omega) (by omega) (by omega) ?_
        intro v' w'' hown hgr
        refine hK _ _ (by rw [← cellsV_app] at hown; exact hown) (hS.keep ((Below.refl _ _).grown hgr (by simp; omega) (fun k hk => by have := (ownsRow_block hown5 k hk).1; simp; omega))) (fun j u hj hjk hsp hre h => ?_)
        refine phiO_int j u _ _ _ h hgr (fun g hg => (ownsRow_block hown5 g hg).2) (fun e => by subst e; cases hsp) (fun e => by subst e; cases hsp) (fun e => by subst e; cases hsp) hjk (fun e => by subst e; cases hre)
      | 16, _, ho, hK =>
        simp only [List.getElem?_toArray, List.getElem?_cons_zero, List.getElem?_cons_succ, Option.some.injEq] at ho
        subst ho
        simp only [] at hd hK
        have d0 : aa.eval (.tmp 84) = .slice (some Bt) T.length c1 := hd ⟨1, .data⟩ (by simp) rfl (by intro j hj; revert j; decide +kernel)
        have h8 : w'.ownsRow (w.heap.size + 1 + 1 + 1) 32 5 (aa.eval (.tmp 91)) ((n + 1) + 1) (cellsP (P ++ [(⟨a, g, s, m, z⟩ : TP)])) := hd ⟨8, .data⟩ (by simp) rfl (by intro j hj; revert j; decide +kernel)
        have h15 : w'.ownsRow (w.heap.size + 1 + 1 + 1) 3 1 (aa.eval (.tmp 98)) (V.length + 1) (cellsV (V ++ [J1])) := hd ⟨15, .data⟩ (by simp) rfl (by intro j hj; revert j; decide +kernel)
        obtain ⟨gb, cb, d1, -⟩ := own_form' h8 (by omega)
        obtain ⟨gc, cc, d2, -⟩ := own_form' h15 (by omega)
        rw [d1] at h8
        rw [d2] at h15
        have H8 := hide h8
        have H15 := hide h15
        have d0 := ev_of d0
        have d1 := ev_of d1
        have d2 := ev_of d2
        clear hd h8 h15
        go_simp
        exact hK _ _ ⟨gb, cb, gc, cc, rfl, H8.out, H15.out⟩ hS (fun _ _ _ _ _ _ h => h)
      | k + 17, hk, _, _ => exact absurd hk (by omega)
    · intro vals wf hS hφ
      obtain ⟨gb, cb, gc, cc, e16, hP', hV'⟩ : ∃ gb cb gc cc, vals 16 = .agg #[.slice (some Bt) T.length c1, .slice (some ⟨gb, 0, none⟩) (n + 1 + 1) cb, .slice (some ⟨gc, 0, none⟩) (V.length + 1) cc] ∧ wf.ownsRow (w.heap.size + 1 + 1 + 1) 32 5 (.slice (some ⟨gb, 0, none⟩) (n + 1 + 1) cb) (n + 1 + 1) (cellsP (P ++ [(⟨a, g, s, m, z⟩ : TP)])) ∧ wf.ownsRow (w.heap.size + 1 + 1 + 1) 3 1 (.slice (some ⟨gc, 0, none⟩) (V.length + 1) cc) (V.length + 1) (cellsV (V ++ [J1])) := hφ 16 (by decide) (by decide)
      have HBf := hide hS
      have hb1 := (ownsRow_block hP' gb rfl).1
      have hb2 := (ownsRow_block hV' gc rfl).1
      have HVf := hide (And.intro (tapsV_own hP') (intsV_own hV'))
      have r0 := hS.cell 2 0 (w.heap.size + 1 + 1) _ _ _ rfl rfl rfl
      have r1 := hS.cell 2 1 (w.heap.size + 1 + 1) _ _ _ rfl rfl rfl
      have r2 := hS.cell 2 2 (w.heap.size + 1 + 1) _ _ _ rfl rfl rfl
      have s0 := hS.frozen 2 0 (w.heap.size + 1 + 1) _ _ rfl rfl
      have s1 := hS.frozen 2 1 (w.heap.size + 1 + 1) _ _ rfl rfl
      have s2 := hS.frozen 2 2 (w.heap.size + 1 + 1) _ _ rfl rfl
      clear hφ hS hP' hV' HG1w4
      simp only [putsD, Nat.zero_add, Nat.reduceAdd, e16]
      clear e16
      refine one_ready (i := 19) (by kernel_rfl) rfl rfl (fun K hK => ?_)
      go_simp
      have HLg : Hid (Led3 (((wf.setCell ⟨w.heap.size + 1 + 1, 0, none⟩ (.slice (some Bt) T.length c1)).setCell ⟨w.heap.size + 1 + 1, 1, none⟩ (.slice (some ⟨gb, 0, none⟩) (n + 1 + 1) cb)).setCell ⟨w.heap.size + 1 + 1, 2, none⟩ (.slice (some ⟨gc, 0, none⟩) (V.length + 1) cc)) (w.heap.size + 1 + 1) (some Bt) (some ⟨gb, 0, none⟩) (some ⟨gc, 0, none⟩) T.length c1 (n + 1 + 1) cb (V.length + 1) cc) := by
        refine hide ⟨?_, ?_, ?_⟩
        all_goals simp [go_sem, r0, r1, r2]
      have HBg : Hid (Below w.heap.size w (((wf.setCell ⟨w.heap.size + 1 + 1, 0, none⟩ (.slice (some Bt) T.length c1)).setCell ⟨w.heap.size + 1 + 1, 1, none⟩ (.slice (some ⟨gb, 0, none⟩) (n + 1 + 1) cb)).setCell ⟨w.heap.size + 1 + 1, 2, none⟩ (.slice (some ⟨gc, 0, none⟩) (V.length + 1) cc))) :=
        hide (((HBf.out.2.2.setCell (p := ⟨w.heap.size + 1 + 1, 0, none⟩) (by simp; omega) _).setCell (p := ⟨w.heap.size + 1 + 1, 1, none⟩) (by simp; omega) _).setCell (p := ⟨w.heap.size + 1 + 1, 2, none⟩) (by simp; omega) _)
      have HVg : Hid (LedV (((wf.setCell ⟨w.heap.size + 1 + 1, 0, none⟩ (.slice (some Bt) T.length c1)).setCell ⟨w.heap.size + 1 + 1, 1, none⟩ (.slice (some ⟨gb, 0, none⟩) (n + 1 + 1) cb)).setCell ⟨w.heap.size + 1 + 1, 2, none⟩ (.slice (some ⟨gc, 0, none⟩) (V.length + 1) cc)) (lg (some Bt) (some ⟨gb, 0, none⟩) (some ⟨gc, 0, none⟩) T.length c1 (n + 1 + 1) cb (V.length + 1) cc) T (P ++ [(⟨a, g, s, m, z⟩ : TP)]) (V ++ [J1])) := by
        obtain ⟨b1, d1⟩ := HVf.out
        have b2 : Fresh (w.heap.size + 1 + 1 + 1) (.slice (some ⟨gb, 0, none⟩) (n + 1 + 1) cb) := fun k hk => by simp [Value.ownBlock] at hk; omega
        have d2 : Fresh (w.heap.size + 1 + 1 + 1) (.slice (some ⟨gc, 0, none⟩) (V.length + 1) cc) := fun k hk => by simp [Value.ownBlock] at hk; omega
        exact hide ⟨_, _, _, rfl, ⟨_, _, rfl, HT.out.below HBg.out, hc1, fun e => by cases e⟩, ((b1.set b2 (by simp) _).set b2 (by simp) _).set b2 (by simp) _, ((d1.set d2 (by simp) _).set d2 (by simp) _).set d2 (by simp) _⟩
      refine hK _ _ ?_
      clear hK K HVf HBf r0 r1 r2 s0 s1 s2
      generalize ((wf.setCell ⟨w.heap.size + 1 + 1, 0, none⟩ (.slice (some Bt) T.length c1)).setCell ⟨w.heap.size + 1 + 1, 1, none⟩ (.slice (some ⟨gb, 0, none⟩) (n + 1 + 1) cb)).setCell ⟨w.heap.size + 1 + 1, 2, none⟩ (.slice (some ⟨gc, 0, none⟩) (V.length + 1) cc) = wg at *
      refine one_ready (i := 20) (by kernel_rfl) rfl rfl (fun K hK => ?_)
      go_simp
      refine hK _ _ ?_
      clear hK K
      refine one_ready (i := 21) (by kernel_rfl) rfl rfl (fun K hK => ?_)
      go_simp
      refine hK _ _ ?_
      clear hK K
      refine wpAny_done (by kernel_rfl) ?_ _
      obtain ⟨g0, g1, g2⟩ := HLg.out
      go_wp2_with fail
      refine bodyPost_ret (v := .tuple #[lg (some Bt) (some ⟨gb, 0, none⟩) (some ⟨gc, 0, none⟩) T.length c1 (n + 1 + 1) cb (V.length + 1) cc, .int .i64 J1, .int .i64 0]) (by simp [results, Try.results23, go_sem, g0, g1, g2]) rfl ⟨⟨_, rfl, ?_⟩, HBg.out⟩
      exact HVg.out

end Go.Proofs.Ytcakfmpckbmdeab
