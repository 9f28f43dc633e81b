/-
  'SellOf' (package leeboardref).
-/
import Derived.Test.YtcakfmpckbmdeabU3
import Derived.Test.YtcakfmpckbmdeabM4
import Derived.BigRegion
namespace Go.Proofs.Ytcakfmpckbmdeab
open Go.RowKit

/-- the ways of Sell, as the document has them -/
theorem sell_ways {T : List TK} {P : List TP} {V : List Int} (t : TK) (h0 : chkL T P V = 0) :
    (chkK t ≠ 0 ∧ sellE T P V t = chkK t) ∨ (chkK t = 0 ∧ ¬ idxT T t.i < 0 ∧ sellE T P V t = 6) ∨ (chkK t = 0 ∧ idxT T t.i < 0 ∧ T.length = 12 ∧ sellE T P V t = 2) ∨ (chkK t = 0 ∧ idxT T t.i < 0 ∧ T.length < 12 ∧ hasT T t.i = false ∧ sellE T P V t = 0) := by
  obtain ⟨r1, r2, r3, r4, r5⟩ := chkL_right h0
  by_cases h1 : chkK t = 0
  · right
    cases h2 : hasT T t.i
    · right
      have hi : idxT T t.i < 0 := by
        by_cases hi : idxT T t.i < 0
        · exact hi
        · obtain ⟨k, x, e1, e2⟩ := idxT_get hi
          have hx : x.i = t.i := idxT_id' e1 e2
          rw [← hx, hasT_mem (List.mem_of_getElem? e2)] at h2
          cases h2
      by_cases h3 : T.length = 12
      · left
        exact ⟨h1, hi, h3, by simp [sellE, firstE, h0, h1, h2, h3]⟩
      · right
        exact ⟨h1, hi, by omega, rfl, by simp [sellE, firstE, h0, h1, h2, h3]⟩
    · left
      obtain ⟨x, hx, e1, e2⟩ := hasT_pos (rising_of r4) h2
      exact ⟨h1, by rw [e2]; omega, by simp [sellE, firstE, h0, h1, h2]⟩
  · left
    exact ⟨h1, by simp [sellE, firstE, h0, h1]⟩

set_option maxHeartbeats 3200000 in
theorem sellOf_wrong (T : List TK) (P : List TP) (V : List Int) (i k f t z r : Int) (o1 o2 o3 : Option Addr) (c1 c2 c3 : Nat) (w : World) (_hT : TiksAt w o1 T) (_hlT : T.length ≤ 12) (h : chk i k f t z r ≠ 0) :
    Calls Try.prog 22 #[lg o1 o2 o3 T.length c1 P.length c2 V.length c3, tk i k f t z r] w fun e w' => (∃ v, e = .returned (.tuple #[v, .int .i64 (chk i k f t z r)]) ∧ LedV w' v [] [] []) ∧ Below w.heap.size w w' := by
  have HX := hide (fun W => checkT_any i k f t z r W)
  generalize chk i k f t z r = x at *
  have hx : (x != 0) = true := by simpa using h
  clear h
  go_enter Try.func22, Try.ntmps22
  go_wp2_with fail
  have HG1 := hide ((((Blks.nil w).more (.cells #[.slice o1 T.length c1, .slice o2 P.length c2, .slice o3 V.length c3] 43) (by simp)).more (.cells #[.int .i64 i, .int .i64 k, .int .i64 f, .int .i64 t, .int .i64 z, .int .i64 r] 23) (by simp)).more (.cells #[.slice none 0 0, .slice none 0 0, .slice none 0 0] 43) (by simp))
  refine (HX.out _).mono ?_
  rintro e w1 ⟨rfl, hb⟩
  have HG1w1 := hide (HG1.out.on hb)
  clear hb HG1
  have lG1_0 := HG1w1.out.lt 0 w.heap.size (by simp) rfl
  have cG1_0_0 := HG1w1.out.cell 0 0 w.heap.size _ _ _ rfl rfl rfl
  have cG1_0_1 := HG1w1.out.cell 0 1 w.heap.size _ _ _ rfl rfl rfl
  have cG1_0_2 := HG1w1.out.cell 0 2 w.heap.size _ _ _ rfl rfl rfl
  have lG1_1 := HG1w1.out.lt 1 (w.heap.size + 1) (by simp) rfl
  have cG1_1_0 := HG1w1.out.cell 1 0 (w.heap.size + 1) _ _ _ rfl rfl rfl
  have cG1_1_1 := HG1w1.out.cell 1 1 (w.heap.size + 1) _ _ _ rfl rfl rfl
  have cG1_1_2 := HG1w1.out.cell 1 2 (w.heap.size + 1) _ _ _ rfl rfl rfl
  have cG1_1_3 := HG1w1.out.cell 1 3 (w.heap.size + 1) _ _ _ rfl rfl rfl
  have cG1_1_4 := HG1w1.out.cell 1 4 (w.heap.size + 1) _ _ _ rfl rfl rfl
  have cG1_1_5 := HG1w1.out.cell 1 5 (w.heap.size + 1) _ _ _ rfl rfl rfl
  have lG1_2 := HG1w1.out.lt 2 (w.heap.size + 1 + 1) (by simp) rfl
  have cG1_2_0 := HG1w1.out.cell 2 0 (w.heap.size + 1 + 1) _ _ _ rfl rfl rfl
  have fG1_2_0 := HG1w1.out.frozen 2 0 (w.heap.size + 1 + 1) _ _ rfl rfl
  have cG1_2_1 := HG1w1.out.cell 2 1 (w.heap.size + 1 + 1) _ _ _ rfl rfl rfl
  have fG1_2_1 := HG1w1.out.frozen 2 1 (w.heap.size + 1 + 1) _ _ rfl rfl
  have cG1_2_2 := HG1w1.out.cell 2 2 (w.heap.size + 1 + 1) _ _ _ rfl rfl rfl
  have fG1_2_2 := HG1w1.out.frozen 2 2 (w.heap.size + 1 + 1) _ _ rfl rfl
  go_wp2_with fail
  refine bodyPost_ret (v := .tuple #[lg none none none 0 0 0 0 0 0, .int .i64 x]) (by simp [results, Try.results22, go_sem, *]) rfl ⟨⟨_, rfl, ledV_none _⟩, ?_⟩
  repeat (first | with_reducible refine Below.setCell ?_ (by simp; try omega) _ | exact HG1w1.out.2.2)

set_option maxHeartbeats 3200000 in
theorem sellOf_twice (T : List TK) (P : List TP) (V : List Int) (i k f t z r : Int) (o1 o2 o3 : Option Addr) (c1 c2 c3 : Nat) (w : World) (hT : TiksAt w o1 T) (hlT : T.length ≤ 12) (h : chk i k f t z r = 0) (hi : ¬ idxT T i < 0) :
    Calls Try.prog 22 #[lg o1 o2 o3 T.length c1 P.length c2 V.length c3, tk i k f t z r] w fun e w' => (∃ v, e = .returned (.tuple #[v, .int .i64 6]) ∧ LedV w' v [] [] []) ∧ Below w.heap.size w w' := by
  have HX := hide (fun W => checkT_any i k f t z r W)
  rw [h] at HX
  have HT := hide hT
  have hi' : 0 ≤ idxT T i := by omega
  clear h hT hi
  go_enter Try.func22, Try.ntmps22
  go_wp2_with fail
  have HG1 := hide ((((Blks.nil w).more (.cells #[.slice o1 T.length c1, .slice o2 P.length c2, .slice o3 V.length c3] 43) (by simp)).more (.cells #[.int .i64 i, .int .i64 k, .int .i64 f, .int .i64 t, .int .i64 z, .int .i64 r] 23) (by simp)).more (.cells #[.slice none 0 0, .slice none 0 0, .slice none 0 0] 43) (by simp))
  refine (HX.out _).mono ?_
  rintro e w1 ⟨rfl, hb⟩
  have HG1w1 := hide (HG1.out.on hb)
  clear hb HG1
  have lG1_0 := HG1w1.out.lt 0 w.heap.size (by simp) rfl
  have cG1_0_0 := HG1w1.out.cell 0 0 w.heap.size _ _ _ rfl rfl rfl
  have cG1_0_1 := HG1w1.out.cell 0 1 w.heap.size _ _ _ rfl rfl rfl
  have cG1_0_2 := HG1w1.out.cell 0 2 w.heap.size _ _ _ rfl rfl rfl
  have lG1_1 := HG1w1.out.lt 1 (w.heap.size + 1) (by simp) rfl
  have cG1_1_0 := HG1w1.out.cell 1 0 (w.heap.size + 1) _ _ _ rfl rfl rfl
  have cG1_1_1 := HG1w1.out.cell 1 1 (w.heap.size + 1) _ _ _ rfl rfl rfl
  have cG1_1_2 := HG1w1.out.cell 1 2 (w.heap.size + 1) _ _ _ rfl rfl rfl
  have cG1_1_3 := HG1w1.out.cell 1 3 (w.heap.size + 1) _ _ _ rfl rfl rfl
  have cG1_1_4 := HG1w1.out.cell 1 4 (w.heap.size + 1) _ _ _ rfl rfl rfl
  have cG1_1_5 := HG1w1.out.cell 1 5 (w.heap.size + 1) _ _ _ rfl rfl rfl
  have lG1_2 := HG1w1.out.lt 2 (w.heap.size + 1 + 1) (by simp) rfl
  have cG1_2_0 := HG1w1.out.cell 2 0 (w.heap.size + 1 + 1) _ _ _ rfl rfl rfl
  have fG1_2_0 := HG1w1.out.frozen 2 0 (w.heap.size + 1 + 1) _ _ rfl rfl
  have cG1_2_1 := HG1w1.out.cell 2 1 (w.heap.size + 1 + 1) _ _ _ rfl rfl rfl
  have fG1_2_1 := HG1w1.out.frozen 2 1 (w.heap.size + 1 + 1) _ _ rfl rfl
  have cG1_2_2 := HG1w1.out.cell 2 2 (w.heap.size + 1 + 1) _ _ _ rfl rfl rfl
  have fG1_2_2 := HG1w1.out.frozen 2 2 (w.heap.size + 1 + 1) _ _ rfl rfl
  go_wp2_with fail
  refine (ticketAt_any o1 _ T _ _ (HT.out.below HG1w1.out.2.2) (by omega)).mono ?_
  rintro e w1' ⟨rfl, hw1⟩
  obtain rfl := hw1.symm
  clear hw1
  go_wp2_with fail
  refine bodyPost_ret (v := .tuple #[lg none none none 0 0 0 0 0 0, .int .i64 6]) (by simp [results, Try.results22, go_sem, *]) rfl ⟨⟨_, rfl, ledV_none _⟩, ?_⟩
  repeat (first | with_reducible refine Below.setCell ?_ (by simp; try omega) _ | exact HG1w1.out.2.2)

set_option maxHeartbeats 3200000 in
theorem sellOf_many (T : List TK) (P : List TP) (V : List Int) (i k f t z r : Int) (o1 o2 o3 : Option Addr) (c1 c2 c3 : Nat) (w : World) (hT : TiksAt w o1 T) (_hlT : T.length ≤ 12) (h : chk i k f t z r = 0) (hi : idxT T i < 0) (h12 : T.length = 12) :
    Calls Try.prog 22 #[lg o1 o2 o3 T.length c1 P.length c2 V.length c3, tk i k f t z r] w fun e w' => (∃ v, e = .returned (.tuple #[v, .int .i64 2]) ∧ LedV w' v [] [] []) ∧ Below w.heap.size w w' := by
  have HX := hide (fun W => checkT_any i k f t z r W)
  rw [h] at HX
  have HT := hide hT
  have hi' : ¬ 0 ≤ idxT T i := by omega
  rw [h12]
  clear h hT hi
  go_enter Try.func22, Try.ntmps22
  go_wp2_with fail
  have HG1 := hide ((((Blks.nil w).more (.cells #[.slice o1 12 c1, .slice o2 P.length c2, .slice o3 V.length c3] 43) (by simp)).more (.cells #[.int .i64 i, .int .i64 k, .int .i64 f, .int .i64 t, .int .i64 z, .int .i64 r] 23) (by simp)).more (.cells #[.slice none 0 0, .slice none 0 0, .slice none 0 0] 43) (by simp))
  refine (HX.out _).mono ?_
  rintro e w1 ⟨rfl, hb⟩
  have HG1w1 := hide (HG1.out.on hb)
  clear hb HG1
  have lG1_0 := HG1w1.out.lt 0 w.heap.size (by simp) rfl
  have cG1_0_0 := HG1w1.out.cell 0 0 w.heap.size _ _ _ rfl rfl rfl
  have cG1_0_1 := HG1w1.out.cell 0 1 w.heap.size _ _ _ rfl rfl rfl
  have cG1_0_2 := HG1w1.out.cell 0 2 w.heap.size _ _ _ rfl rfl rfl
  have lG1_1 := HG1w1.out.lt 1 (w.heap.size + 1) (by simp) rfl
  have cG1_1_0 := HG1w1.out.cell 1 0 (w.heap.size + 1) _ _ _ rfl rfl rfl
  have cG1_1_1 := HG1w1.out.cell 1 1 (w.heap.size + 1) _ _ _ rfl rfl rfl
  have cG1_1_2 := HG1w1.out.cell 1 2 (w.heap.size + 1) _ _ _ rfl rfl rfl
  have cG1_1_3 := HG1w1.out.cell 1 3 (w.heap.size + 1) _ _ _ rfl rfl rfl
  have cG1_1_4 := HG1w1.out.cell 1 4 (w.heap.size + 1) _ _ _ rfl rfl rfl
  have cG1_1_5 := HG1w1.out.cell 1 5 (w.heap.size + 1) _ _ _ rfl rfl rfl
  have lG1_2 := HG1w1.out.lt 2 (w.heap.size + 1 + 1) (by simp) rfl
  have cG1_2_0 := HG1w1.out.cell 2 0 (w.heap.size + 1 + 1) _ _ _ rfl rfl rfl
  have fG1_2_0 := HG1w1.out.frozen 2 0 (w.heap.size + 1 + 1) _ _ rfl rfl
  have cG1_2_1 := HG1w1.out.cell 2 1 (w.heap.size + 1 + 1) _ _ _ rfl rfl rfl
  have fG1_2_1 := HG1w1.out.frozen 2 1 (w.heap.size + 1 + 1) _ _ rfl rfl
  have cG1_2_2 := HG1w1.out.cell 2 2 (w.heap.size + 1 + 1) _ _ _ rfl rfl rfl
  have fG1_2_2 := HG1w1.out.frozen 2 2 (w.heap.size + 1 + 1) _ _ rfl rfl
  go_wp2_with fail
  have hta := ticketAt_any o1 c1 T i w1 (HT.out.below HG1w1.out.2.2) (by omega)
  rw [h12] at hta
  clear h12
  refine hta.mono ?_
  rintro e w1' ⟨rfl, hw1⟩
  obtain rfl := hw1.symm
  clear hw1 hta
  go_wp2_with fail
  refine bodyPost_ret (v := .tuple #[lg none none none 0 0 0 0 0 0, .int .i64 2]) (by simp [results, Try.results22, go_sem, *]) rfl ⟨⟨_, rfl, ledV_none _⟩, ?_⟩
  repeat (first | with_reducible refine Below.setCell ?_ (by simp; try omega) _ | exact HG1w1.out.2.2)

theorem noT {T : List TK} {id : Int} {q : Nat} {y : TK} (h : hasT T id = false) (hy : T[q]? = some y) : y.i ≠ id := by
  intro e
  have := hasT_mem (List.mem_of_getElem? hy)
  rw [e, h] at this
  cases this

theorem LedV.drewL {w : World} {v : Value} {T : List TK} {P : List TP} {V : List Int} (h : LedV w v T P V) : LedV w.drew v T P V := h.below (Below.refl _ _).drew

theorem ownsRow_far' {w w' : World} {base n B : Nat} {e : TypeId} {size g c : Nat} {xs : List Value} (h : w.ownsRow base e size (.slice (some ⟨g, 0, none⟩) n c) n xs) (hb : Below B w w') (hlt : g < B ∨ w'.heap[g]? = w.heap[g]?) : w'.ownsRow base e size (.slice (some ⟨g, 0, none⟩) n c) n xs := by
  refine ⟨h.1, ?_⟩
  rcases h.2 with h' | ⟨g', c', cur, e', h1, h2, h3⟩
  · exact Or.inl h'
  · refine Or.inr ⟨g', c', cur, e', h1, ?_, h3⟩
    simp only [Value.slice.injEq, Option.some.injEq, Addr.mk.injEq, and_true, true_and] at e'
    obtain ⟨rfl, rfl⟩ := e'
    rcases hlt with hlt | hlt
    · rw [hb.block _ hlt]; exact h2
    · rw [hlt]; exact h2

/-- what each operation leaves -/
def phiS (n n7 B : Nat) (o1 : Option Addr) (c1 : Nat) (T : List TK) (x : TK) (j : Nat) (v : Value) (w : World) : Prop :=
  match j with
  | 0 => ∃ g, v = .slice (some ⟨g, 0, none⟩) 0 0 ∧ B ≤ g ∧ w.heap[g]? = some (.cells #[] 23 (0, 0))
  | 1 => v = .pointer (some ⟨n, 0, none⟩)
  | 2 => v = .slice o1 T.length c1
  | 3 => w.ownsRow B 23 6 v T.length (cellsK T)
  | 4 => v = tk x.i x.k x.f x.t x.z x.r
  | 5 => ∃ b, v = .slice (some ⟨b, 0, none⟩) 1 1 ∧ w.heap[b]? = some (.cells #[.int .i64 x.i, .int .i64 x.k, .int .i64 x.f, .int .i64 x.t, .int .i64 x.z, .int .i64 x.r] 23 (0, 0))
  | 6 => w.ownsRow B 23 6 v (T.length + 1) (cellsK (T ++ [x]))
  | 7 => v = .pointer (some ⟨n7, 0, none⟩)
  | _ => True

section
variable {n n7 B : Nat} {o1 : Option Addr} {c1 : Nat} {T : List TK} {x : TK}

theorem phiS_below (j : Nat) (v : Value) (w w' : World) (h : phiS n n7 B o1 c1 T x j v w) (hb : Below w.heap.size w w') : phiS n n7 B o1 c1 T x j v w' := by
  unfold phiS at h ⊢
  split <;> simp only [] at h
  all_goals first
    | exact h
    | exact ownsRow_below h hb
    | (obtain ⟨g, e, h1, h2⟩ := h; exact ⟨g, e, h1, block_below h2 hb⟩)
    | (obtain ⟨g, e, h2⟩ := h; exact ⟨g, e, block_below h2 hb⟩)

theorem phiS_far (j : Nat) (v : Value) (w w' : World) (row : Option Nat) (h : phiS n n7 B o1 c1 T x j v w) (hg : w.grownBy w' row) (h0 : j ≠ 0) (h3 : j ≠ 3) (h6 : j ≠ 6)
    (h5 : j = 5 → ∀ g, row = some g → w.heap[g]? = some (.cells #[] 23 (0, 0))) : phiS n n7 B o1 c1 T x j v w' := by
  unfold phiS at h ⊢
  split <;> simp only [] at h
  all_goals first
    | exact h
    | exact absurd rfl h0
    | exact absurd rfl h3
    | exact absurd rfl h6
    | (obtain ⟨g, e, h3⟩ := h; refine ⟨g, e, block_far h3 hg (fun g' hg' e' => ?_)⟩; rw [h5 rfl g' hg'] at e'; cases e')
end

def spoilS (i k : Nat) : Bool := (i == 3 && k == 0) || (i == 6 && (k == 0 || k == 3 || k == 5))
def reachS (j k : Nat) : Bool := j == 6 && k == 3

theorem own_noneK {w : World} {L : List TK} (h : TiksAt w none L) : L.length = 0 := by
  cases L with
  | nil => rfl
  | cons x L => obtain ⟨b, e, -⟩ := h 0 x rfl; cases e

theorem cellsK_at (L M : List TK) (x : TK) : cellsK (L ++ [x] ++ M) = cellsK L ++ ([.int .i64 x.i, .int .i64 x.k, .int .i64 x.f, .int .i64 x.t, .int .i64 x.z, .int .i64 x.r] ++ cellsK M) := by
  simp [cellsK]

theorem cellsK_two (L M : List TK) (y x : TK) : cellsK (L ++ [y] ++ [x] ++ M) = cellsK L ++ ([.int .i64 y.i, .int .i64 y.k, .int .i64 y.f, .int .i64 y.t, .int .i64 y.z, .int .i64 y.r, .int .i64 x.i, .int .i64 x.k, .int .i64 x.f, .int .i64 x.t, .int .i64 x.z, .int .i64 x.r] ++ cellsK M) := by
  simp [cellsK]

theorem swap_tik (T : List TK) (x y : TK) (k : Nat) (hk : T[k]? = some y) :
    ((((((((((((cellsK (T.take (k + 1) ++ [x] ++ T.drop (k + 1))).set ((k + 1) * 6) (.int .i64 y.i)).set ((k + 1) * 6 + 1) (.int .i64 y.k)).set ((k + 1) * 6 + 2) (.int .i64 y.f)).set ((k + 1) * 6 + 3) (.int .i64 y.t)).set ((k + 1) * 6 + 4) (.int .i64 y.z)).set ((k + 1) * 6 + 5) (.int .i64 y.r)).set (k * 6) (.int .i64 x.i)).set (k * 6 + 1) (.int .i64 x.k)).set (k * 6 + 2) (.int .i64 x.f)).set (k * 6 + 3) (.int .i64 x.t)).set (k * 6 + 4) (.int .i64 x.z)).set (k * 6 + 5) (.int .i64 x.r) = cellsK (T.take k ++ [x] ++ T.drop k) := by
  have hlt := (List.getElem?_eq_some_iff.1 hk).1
  have h1 : T.take (k + 1) = T.take k ++ [y] := by rw [List.take_add_one, hk]; rfl
  have h2 : T.drop k = y :: T.drop (k + 1) := by
    have := List.drop_eq_getElem_cons hlt
    rw [this]
    congr 1
    exact (List.getElem?_eq_some_iff.1 hk).2
  have hl : (T.take k).length = k := by rw [List.length_take]; omega
  rw [h1, h2, cellsK_two, show T.take k ++ [x] ++ y :: T.drop (k + 1) = T.take k ++ [x] ++ [y] ++ T.drop (k + 1) by simp, cellsK_two]
  have hA : (cellsK (T.take k)).length = k * 6 := by rw [cellsK_len, hl]
  generalize cellsK (T.take k) = A at *
  generalize cellsK (T.drop (k + 1)) = M at *
  have e : ∀ (Y : List Value) (j : Nat) (v : Value), (A ++ Y).set (k * 6 + j) v = A ++ Y.set j v := by
    intro Y j v
    rw [List.set_append_right _ _ (by omega), hA]
    congr 2
    omega
  have e0 : ∀ (Y : List Value) (v : Value), (A ++ Y).set (k * 6) v = A ++ Y.set 0 v := fun Y v => e Y 0 v
  have s0 : (k + 1) * 6 = k * 6 + 6 := by omega
  have s1 : (k + 1) * 6 + 1 = k * 6 + 7 := by omega
  have s2 : (k + 1) * 6 + 2 = k * 6 + 8 := by omega
  have s3 : (k + 1) * 6 + 3 = k * 6 + 9 := by omega
  have s4 : (k + 1) * 6 + 4 = k * 6 + 10 := by omega
  have s5 : (k + 1) * 6 + 5 = k * 6 + 11 := by omega
  rw [s1, s2, s3, s4, s5, s0, e, e, e, e, e, e, e0, e, e, e, e, e]
  simp

theorem tik_at (T : List TK) (x : TK) (q : Nat) (hq : q ≤ T.length) : ∀ j, j < 6 → (cellsK (T.take q ++ [x] ++ T.drop q))[q * 6 + j]? = [Value.int .i64 x.i, .int .i64 x.k, .int .i64 x.f, .int .i64 x.t, .int .i64 x.z, .int .i64 x.r][j]? := by
  intro j hj
  have hl : (T.take q).length = q := by rw [List.length_take]; omega
  exact cellsK_get _ q x (by rw [List.append_assoc, List.getElem?_append_right (by omega), hl]; simp) j hj

theorem tik_before (T : List TK) (x y : TK) (q : Nat) (hy : T[q]? = some y) : ∀ j, j < 6 → (cellsK (T.take (q + 1) ++ [x] ++ T.drop (q + 1)))[q * 6 + j]? = [Value.int .i64 y.i, .int .i64 y.k, .int .i64 y.f, .int .i64 y.t, .int .i64 y.z, .int .i64 y.r][j]? := by
  intro j hj
  have hlt := (List.getElem?_eq_some_iff.1 hy).1
  refine cellsK_get _ q y ?_ j hj
  rw [List.append_assoc, List.getElem?_append_left (by rw [List.length_take]; omega), List.getElem?_take, if_pos (by omega), hy]

theorem own_addr' (g k : Nat) : (⟨g, 0, none⟩ : Addr).add k = ⟨g, k, none⟩ := by
  by_cases h : k = 0
  · subst h; simp [Addr.add]
  · simp [Addr.add, h]

set_option maxHeartbeats 12800000 in
set_option maxRecDepth 100000 in
theorem sellOf_ok (T : List TK) (P : List TP) (V : List Int) (i k f t z r : Int) (o1 o2 o3 : Option Addr) (c1 c2 c3 : Nat) (w : World) (hT : TiksAt w o1 T) (hlT : T.length ≤ 12) (hn1 : o1 = none → c1 = 0) (hl12 : T.length < 12) (h : chk i k f t z r = 0) (hi : idxT T i < 0) (hr : Rising T) (hno : hasT T i = false) (hP : TapsV w (.slice o2 P.length c2) P) (hV : IntsV w (.slice o3 V.length c3) V) :
    Calls Try.prog 22 #[lg o1 o2 o3 T.length c1 P.length c2 V.length c3, tk i k f t z r] w fun e w' => (∃ v, e = .returned (.tuple #[v, .int .i64 0]) ∧ LedV w' v (soldT T ⟨i, k, f, t, z, r⟩) P V) ∧ Below w.heap.size w w' := by
  have HX := hide (fun W => checkT_any i k f t z r W)
  rw [h] at HX
  have HT := hide hT
  have HP := hide hP
  have HV := hide hV
  have HR := hide hr
  have HNo := hide hno
  have hi' : ¬ 0 ≤ idxT T i := by omega
  have h12 : ((T.length : Int) == 12) = false := by simp; omega
  clear h hT hi hP hV hr hno
  go_enter Try.func22, Try.ntmps22
  go_wp2_with fail
  have HG1 := hide ((((Blks.nil w).more (.cells #[.slice o1 T.length c1, .slice o2 P.length c2, .slice o3 V.length c3] 43) (by simp)).more (.cells #[.int .i64 i, .int .i64 k, .int .i64 f, .int .i64 t, .int .i64 z, .int .i64 r] 23) (by simp)).more (.cells #[.slice none 0 0, .slice none 0 0, .slice none 0 0] 43) (by simp))
  refine (HX.out _).mono ?_
  rintro e w1 ⟨rfl, hb⟩
  have HG1w1 := hide (HG1.out.on hb)
  clear hb HG1
  have lG1_0 := HG1w1.out.lt 0 w.heap.size (by simp) rfl
  have cG1_0_0 := HG1w1.out.cell 0 0 w.heap.size _ _ _ rfl rfl rfl
  have cG1_0_1 := HG1w1.out.cell 0 1 w.heap.size _ _ _ rfl rfl rfl
  have cG1_0_2 := HG1w1.out.cell 0 2 w.heap.size _ _ _ rfl rfl rfl
  have lG1_1 := HG1w1.out.lt 1 (w.heap.size + 1) (by simp) rfl
  have cG1_1_0 := HG1w1.out.cell 1 0 (w.heap.size + 1) _ _ _ rfl rfl rfl
  have cG1_1_1 := HG1w1.out.cell 1 1 (w.heap.size + 1) _ _ _ rfl rfl rfl
  have cG1_1_2 := HG1w1.out.cell 1 2 (w.heap.size + 1) _ _ _ rfl rfl rfl
  have cG1_1_3 := HG1w1.out.cell 1 3 (w.heap.size + 1) _ _ _ rfl rfl rfl
  have cG1_1_4 := HG1w1.out.cell 1 4 (w.heap.size + 1) _ _ _ rfl rfl rfl
  have cG1_1_5 := HG1w1.out.cell 1 5 (w.heap.size + 1) _ _ _ rfl rfl rfl
  have lG1_2 := HG1w1.out.lt 2 (w.heap.size + 1 + 1) (by simp) rfl
  have cG1_2_0 := HG1w1.out.cell 2 0 (w.heap.size + 1 + 1) _ _ _ rfl rfl rfl
  have fG1_2_0 := HG1w1.out.frozen 2 0 (w.heap.size + 1 + 1) _ _ rfl rfl
  have cG1_2_1 := HG1w1.out.cell 2 1 (w.heap.size + 1 + 1) _ _ _ rfl rfl rfl
  have fG1_2_1 := HG1w1.out.frozen 2 1 (w.heap.size + 1 + 1) _ _ rfl rfl
  have cG1_2_2 := HG1w1.out.cell 2 2 (w.heap.size + 1 + 1) _ _ _ rfl rfl rfl
  have fG1_2_2 := HG1w1.out.frozen 2 2 (w.heap.size + 1 + 1) _ _ rfl rfl
  go_wp2_with fail
  refine (ticketAt_any o1 _ T _ _ (HT.out.below HG1w1.out.2.2) (by omega)).mono ?_
  rintro e w1' ⟨rfl, hw1⟩
  obtain rfl := hw1.symm
  clear hw1
  go_wp2_with fail
  have HG2 := hide ((Blks.nil w1).more (.cells #[.slice o1 T.length c1, .slice o2 P.length c2, .slice o3 V.length c3] 43) (by simp))
  clear lG1_0 cG1_0_0 cG1_0_1 cG1_0_2 lG1_1 cG1_1_0 cG1_1_1 cG1_1_2 cG1_1_3 cG1_1_4 cG1_1_5 lG1_2 cG1_2_0 fG1_2_0 cG1_2_1 fG1_2_1 cG1_2_2 fG1_2_2
  have hww : w.heap.size + 1 + 1 + 1 ≤ w1.heap.size := by
    have := HG1w1.out.2.1
    simpa using this
  have HG1a := hide (HG1w1.out.on HG2.out.2.2)
  clear HG1w1 HX
  generalize w1.alloc (.cells #[.slice o1 T.length c1, .slice o2 P.length c2, .slice o3 V.length c3] 43) = wa at *
  refine wp_region_any (by kernel_rfl) ?_
  refine wpAny_makersS spoilS reachS (fun w' => Blks w w' ([] ++ [.cells #[.slice o1 T.length c1, .slice o2 P.length c2, .slice o3 V.length c3] 43] ++ [.cells #[.int .i64 i, .int .i64 k, .int .i64 f, .int .i64 t, .int .i64 z, .int .i64 r] 23] ++ [.cells #[.slice none 0 0, .slice none 0 0, .slice none 0 0] 43]) ∧ Blks w1 w' ([] ++ [.cells #[.slice o1 T.length c1, .slice o2 P.length c2, .slice o3 V.length c3] 43])) (phiS w.heap.size w1.heap.size (w1.heap.size + 1) o1 c1 T (⟨i, k, f, t, z, r⟩ : TK) ) 8 1 #[false] [28, 29, 30, 31, 32, 33, 34, 35] (by kernel_rfl) (by kernel_rfl) (by kernel_rfl) (by kernel_rfl) (by kernel_rfl) 82 rfl (by kernel_rfl) ?_ ?_ ?_
  · exact ⟨HG1a.out.on (Below.refl _ _).drew, HG2.out.on (Below.refl _ _).drew⟩
  · clear HG1a HG2
    intro kk o hk ho aa w' hS hd hb K' hK
    have b2 : aa.tmps[2]?.getD undef = .pointer (some ⟨w.heap.size, 0, none⟩) := ev_of ((hb 2 (by intro j hj; revert j; decide +kernel)).trans rfl)
    have b3 : aa.tmps[3]?.getD undef = .pointer (some ⟨w.heap.size + 1, 0, none⟩) := ev_of ((hb 3 (by intro j hj; revert j; decide +kernel)).trans rfl)
    have b7 : aa.tmps[7]?.getD undef = .pointer (some ⟨w1.heap.size, 0, none⟩) := ev_of ((hb 7 (by intro j hj; revert j; decide +kernel)).trans rfl)
    clear hb
    match kk, hk, ho, hK with
    | 0, _, ho, hK =>
      simp only [List.getElem?_toArray, List.getElem?_cons_zero, Option.some.injEq] at ho
      subst ho
      simp only [] at hd hK
      clear hd
      have hbd := (Below.refl w'.heap.size w').alloc (Nat.le_refl _) (.cells #[] 23)
      have hsz1 := hS.1.2.1
      have hsz := hS.2.2.1
      simp only [List.length_append, List.length_cons, List.length_nil] at hsz hsz1
      go_simp
      exact hK _ _ ⟨w'.heap.size, rfl, by omega, heap_alloc_new _ _⟩ ⟨hS.1.on hbd, hS.2.on hbd⟩ (fun j u _ _ _ _ h => phiS_below j u _ _ h hbd)
    | 1, _, ho, hK =>
      simp only [List.getElem?_toArray, List.getElem?_cons_zero, List.getElem?_cons_succ, Option.some.injEq] at ho
      subst ho
      simp only [] at hd hK
      clear hd
      go_simp
      exact hK _ _ rfl hS (fun _ _ _ _ _ _ h => h)
    | 2, _, ho, hK =>
      simp only [List.getElem?_toArray, List.getElem?_cons_zero, List.getElem?_cons_succ, Option.some.injEq] at ho
      subst ho
      simp only [] at hd hK
      have d0 : aa.eval (.tmp 29) = .pointer (some ⟨w.heap.size, 0, none⟩) := hd ⟨1, .data⟩ (by simp) rfl (by intro j hj; revert j; decide +kernel)
      have d0 := ev_of d0
      have x0 := hS.1.cell 0 0 w.heap.size _ _ _ rfl rfl rfl
      have x1 := hS.1.cell 0 1 w.heap.size _ _ _ rfl rfl rfl
      have x2 := hS.1.cell 0 2 w.heap.size _ _ _ rfl rfl rfl
      have y0 := hS.1.cell 1 0 (w.heap.size + 1) _ _ _ rfl rfl rfl
      have y1 := hS.1.cell 1 1 (w.heap.size + 1) _ _ _ rfl rfl rfl
      have y2 := hS.1.cell 1 2 (w.heap.size + 1) _ _ _ rfl rfl rfl
      have y3 := hS.1.cell 1 3 (w.heap.size + 1) _ _ _ rfl rfl rfl
      have y4 := hS.1.cell 1 4 (w.heap.size + 1) _ _ _ rfl rfl rfl
      have y5 := hS.1.cell 1 5 (w.heap.size + 1) _ _ _ rfl rfl rfl
      clear hd
      go_simp
      exact hK _ _ rfl hS (fun _ _ _ _ _ _ h => h)
    | 3, _, ho, hK =>
      simp only [List.getElem?_toArray, List.getElem?_cons_zero, List.getElem?_cons_succ, Option.some.injEq] at ho
      subst ho
      simp only [] at hd hK
      obtain ⟨g2, d0, hg2, hh2⟩ : ∃ g, aa.eval (.tmp 28) = .slice (some ⟨g, 0, none⟩) 0 0 ∧ w1.heap.size + 1 ≤ g ∧ w'.heap[g]? = some (.cells #[] 23 (0, 0)) := hd ⟨0, .data⟩ (by simp) rfl (by intro j hj; revert j; decide +kernel)
      have d1 : aa.eval (.tmp 30) = .slice o1 T.length c1 := hd ⟨2, .data⟩ (by simp) rfl (by intro j hj; revert j; decide +kernel)
      have hsz1 := hS.1.2.1
      have hsz := hS.2.2.1
      simp only [List.length_append, List.length_cons, List.length_nil] at hsz hsz1
      clear hd
      obtain ⟨i0, hi0, hz0, hz1, hz2⟩ := info_parts info23
      refine wp_append_row _ _ 40 rfl (w1.heap.size + 1) 23 i0 _ 6 48 Try.underlying40 hi0 hz0 hz1 hz2 rfl (by decide) _ 0 [] d0 ⟨rfl, Or.inr ⟨g2, 0, #[], rfl, hg2, hh2, Nat.le_refl _, by decide, rfl, rfl⟩⟩ o1 T.length c1 (cellsK T) d1 (cellsK_len T) (fun ad e => tiks_cells (e ▸ HT.out.below hS.1.2.2)) (oneK T) (fun e => ⟨own_noneK (e ▸ HT.out), hn1 e⟩) (by unfold maxLen; omega) (by omega) (by omega) ?_
      intro v' w'' hown hgr
      have hrow : ∀ k, (Value.slice (some ⟨g2, 0, none⟩) 0 0).ownBlock = some k → w1.heap.size + 1 ≤ k := fun k hk => by simp [Value.ownBlock] at hk; omega
      refine hK _ _ (by rw [Nat.zero_add, List.nil_append] at hown; exact hown) ⟨hS.1.keep ((Below.refl _ _).grown hgr (by simp; omega) (fun k hk => by have := hrow k hk; simp; omega)), hS.2.keep ((Below.refl _ _).grown hgr (by simp; omega) (fun k hk => by have := hrow k hk; simp; omega))⟩ (fun j u hj hjk hsp hre h => ?_)
      refine phiS_far j u _ _ _ h hgr (fun e => by subst e; cases hsp) hjk (fun e => by subst e; cases hre) (fun _ g hg => ?_)
      simp [Value.ownBlock] at hg; subst hg; exact hh2
    | 4, _, ho, hK =>
      simp only [List.getElem?_toArray, List.getElem?_cons_zero, List.getElem?_cons_succ, Option.some.injEq] at ho
      subst ho
      simp only [] at hd hK
      have x0 := hS.1.cell 0 0 w.heap.size _ _ _ rfl rfl rfl
      have x1 := hS.1.cell 0 1 w.heap.size _ _ _ rfl rfl rfl
      have x2 := hS.1.cell 0 2 w.heap.size _ _ _ rfl rfl rfl
      have y0 := hS.1.cell 1 0 (w.heap.size + 1) _ _ _ rfl rfl rfl
      have y1 := hS.1.cell 1 1 (w.heap.size + 1) _ _ _ rfl rfl rfl
      have y2 := hS.1.cell 1 2 (w.heap.size + 1) _ _ _ rfl rfl rfl
      have y3 := hS.1.cell 1 3 (w.heap.size + 1) _ _ _ rfl rfl rfl
      have y4 := hS.1.cell 1 4 (w.heap.size + 1) _ _ _ rfl rfl rfl
      have y5 := hS.1.cell 1 5 (w.heap.size + 1) _ _ _ rfl rfl rfl
      clear hd
      go_simp
      exact hK _ _ rfl hS (fun _ _ _ _ _ _ h => h)
    | 5, _, ho, hK =>
      simp only [List.getElem?_toArray, List.getElem?_cons_zero, List.getElem?_cons_succ, Option.some.injEq] at ho
      subst ho
      simp only [] at hd hK
      have d0 : aa.eval (.tmp 32) = tk i k f t z r := hd ⟨4, .data⟩ (by simp) rfl (by intro j hj; revert j; decide +kernel)
      have d0 := ev_of d0
      clear hd
      have hbd := (Below.refl w'.heap.size w').alloc (Nat.le_refl _) (.cells #[.int .i64 i, .int .i64 k, .int .i64 f, .int .i64 t, .int .i64 z, .int .i64 r] 23)
      go_simp
      exact hK _ _ ⟨w'.heap.size, rfl, heap_alloc_new _ _⟩ ⟨hS.1.on hbd, hS.2.on hbd⟩ (fun j u _ _ _ _ h => phiS_below j u _ _ h hbd)
    | 6, _, ho, hK =>
      simp only [List.getElem?_toArray, List.getElem?_cons_zero, List.getElem?_cons_succ, Option.some.injEq] at ho
      subst ho
      simp only [] at hd hK
      have hown5 : w'.ownsRow (w1.heap.size + 1) 23 6 (aa.eval (.tmp 31)) T.length (cellsK T) := hd ⟨3, .data⟩ (by simp) rfl (by intro j hj; revert j; decide +kernel)
      obtain ⟨b7', d1, hh7⟩ : ∃ b, aa.eval (.tmp 33) = .slice (some ⟨b, 0, none⟩) 1 1 ∧ w'.heap[b]? = some (.cells #[.int .i64 i, .int .i64 k, .int .i64 f, .int .i64 t, .int .i64 z, .int .i64 r] 23 (0, 0)) := hd ⟨5, .data⟩ (by simp) rfl (by intro j hj; revert j; decide +kernel)
      have hsz1 := hS.1.2.1
      have hsz := hS.2.2.1
      simp only [List.length_append, List.length_cons, List.length_nil] at hsz hsz1
      clear hd
      obtain ⟨i0, hi0, hz0, hz1, hz2⟩ := info_parts info23
      refine wp_append_row _ _ 40 rfl (w1.heap.size + 1) 23 i0 _ 6 48 Try.underlying40 hi0 hz0 hz1 hz2 rfl (by decide) _ T.length (cellsK T) rfl hown5 (some ⟨b7', 0, none⟩) 1 1 (cellsK [(⟨i, k, f, t, z, r⟩ : TK)]) d1 (cellsK_len _) (fun ad e => by cases e; exact cells_block hh7) (oneK _) (fun e => by cases e) (by unfold maxLen; omega) (by omega) (by omega) ?_
      intro v' w'' hown hgr
      refine hK _ _ (by rw [← cellsK_app] at hown; exact hown) ⟨hS.1.keep ((Below.refl _ _).grown hgr (by simp; omega) (fun k hk => by have := (ownsRow_block hown5 k hk).1; simp; omega)), hS.2.keep ((Below.refl _ _).grown hgr (by simp; omega) (fun k hk => by have := (ownsRow_block hown5 k hk).1; simp; omega))⟩ (fun j u hj hjk hsp hre h => ?_)
      exact phiS_far j u _ _ _ h hgr (fun e => by subst e; cases hsp) (fun e => by subst e; cases hsp) hjk (fun e => by subst e; cases hsp)
    | 7, _, ho, hK =>
      simp only [List.getElem?_toArray, List.getElem?_cons_zero, List.getElem?_cons_succ, Option.some.injEq] at ho
      subst ho
      simp only [] at hd hK
      clear hd
      go_simp
      exact hK _ _ rfl hS (fun _ _ _ _ _ _ h => h)
    | kk + 8, hk, _, _ => exact absurd hk (by omega)
  · intro vals wf hS hφ
    have h6 : wf.ownsRow (w1.heap.size + 1) 23 6 (vals 6) (T.length + 1) (cellsK (T ++ [(⟨i, k, f, t, z, r⟩ : TK)])) := hφ 6 (by decide) (by decide)
    have h7 : vals 7 = .pointer (some ⟨w1.heap.size, 0, none⟩) := hφ 7 (by decide) (by decide)
    obtain ⟨g, c, e6, hg⟩ := own_form' h6 (by omega)
    rw [e6] at h6
    have HO : Hid (wf.ownsRow (w1.heap.size + 1) 23 6 (.slice (some ⟨g, 0, none⟩) (T.length + 1) c) (T.length + 1) (cellsK (T.take T.length ++ [(⟨i, k, f, t, z, r⟩ : TK)] ++ T.drop T.length))) := by
      show World.ownsRow _ _ _ _ _ _ _
      simpa using h6
    have hsz := hS.2.2.1
    have hsz1 := hS.1.2.1
    have hsw := HG1a.out.2.1
    simp only [List.length_append, List.length_cons, List.length_nil] at hsz hsz1 hsw
    have hw1w : w.heap.size + 1 + 1 + 1 ≤ w1.heap.size := hww
    have r0 := hS.2.cell 0 0 w1.heap.size _ _ _ rfl rfl rfl
    have s0 := hS.2.frozen 0 0 w1.heap.size _ _ rfl rfl
    have HS1 := hide hS.1
    have HS2 := hide hS.2
    clear hφ hS h6 HG1a HG2
    simp only [putsD, Nat.zero_add, Nat.reduceAdd, e6, h7]
    clear e6 h7
    refine one_ready (i := 8) (by kernel_rfl) rfl rfl (fun K hK => ?_)
    go_simp
    have HO1 : Hid ((wf.setCell ⟨w1.heap.size, 0, none⟩ (.slice (some ⟨g, 0, none⟩) (T.length + 1) c)).ownsRow (w1.heap.size + 1) 23 6 (.slice (some ⟨g, 0, none⟩) (T.length + 1) c) (T.length + 1) (cellsK (T.take T.length ++ [(⟨i, k, f, t, z, r⟩ : TK)] ++ T.drop T.length))) := by
      refine hide (ownsRow_far' HO.out (Below.setCell (Below.refl _ _) (p := ⟨w1.heap.size, 0, none⟩) (Nat.le_refl _) _) (Or.inr ?_))
      exact heap_setCell_other _ _ _ _ (by simp; omega)
    have HB1 : Hid (Blks w (wf.setCell ⟨w1.heap.size, 0, none⟩ (.slice (some ⟨g, 0, none⟩) (T.length + 1) c)) ([] ++ [.cells #[.slice o1 T.length c1, .slice o2 P.length c2, .slice o3 V.length c3] 43] ++ [.cells #[.int .i64 i, .int .i64 k, .int .i64 f, .int .i64 t, .int .i64 z, .int .i64 r] 23] ++ [.cells #[.slice none 0 0, .slice none 0 0, .slice none 0 0] 43])) := hide (HS1.out.set ⟨w1.heap.size, 0, none⟩ (by simp; omega) _)
    have HB2 : Hid (Blks w1 (wf.setCell ⟨w1.heap.size, 0, none⟩ (.slice (some ⟨g, 0, none⟩) (T.length + 1) c)) ([] ++ [.cells #[.slice (some ⟨g, 0, none⟩) (T.length + 1) c, .slice o2 P.length c2, .slice o3 V.length c3] 43])) := hide (HS2.out.put 0 0 w1.heap.size _ _ (.slice (some ⟨g, 0, none⟩) (T.length + 1) c) rfl rfl)
    refine hK _ _ ?_
    clear hK K HO HS1 HS2 r0 s0
    generalize wf.setCell ⟨w1.heap.size, 0, none⟩ (.slice (some ⟨g, 0, none⟩) (T.length + 1) c) = wg at *
    refine wpAny_done (by kernel_rfl) ?_ _
    have r0 := HB2.out.cell 0 0 w1.heap.size _ _ _ rfl rfl rfl
    go_wp2_with fail
    go_loopw [8] (fun j wr => ∃ (q : Nat), q ≤ T.length ∧ j = .int .i64 q ∧ Hid (wr.ownsRow (w1.heap.size + 1) 23 6 (.slice (some ⟨g, 0, none⟩) (T.length + 1) c) (T.length + 1) (cellsK (T.take q ++ [(⟨i, k, f, t, z, r⟩ : TK)] ++ T.drop q))) ∧ Hid (∀ y, T[q]? = some y → i < y.i) ∧ Hid (Blks w wr ([] ++ [.cells #[.slice o1 T.length c1, .slice o2 P.length c2, .slice o3 V.length c3] 43] ++ [.cells #[.int .i64 i, .int .i64 k, .int .i64 f, .int .i64 t, .int .i64 z, .int .i64 r] 23] ++ [.cells #[.slice none 0 0, .slice none 0 0, .slice none 0 0] 43])) ∧ Hid (Blks w1 wr ([] ++ [.cells #[.slice (some ⟨g, 0, none⟩) (T.length + 1) c, .slice o2 P.length c2, .slice o3 V.length c3] 43]))) (fun j _ => (intOf j).toNat)
    case atStart => exact ⟨T.length, Nat.le_refl _, by simp, HO1, fun y hy => by simp at hy, HB1, HB2⟩
    case round =>
      clear r0 HO1 HB1 HB2
      obtain ⟨q, hq, rfl, hO, hG, HB1, HB2⟩ := hrel
      have r0 := HB2.out.cell 0 0 w1.heap.size _ _ _ rfl rfl rfl
      have r1 := HB2.out.cell 0 1 w1.heap.size _ _ _ rfl rfl rfl
      have r2 := HB2.out.cell 0 2 w1.heap.size _ _ _ rfl rfl rfl
      have u0 := HB1.out.cell 2 0 (w.heap.size + 1 + 1) _ _ _ rfl rfl rfl
      have u1 := HB1.out.cell 2 1 (w.heap.size + 1 + 1) _ _ _ rfl rfl rfl
      have u2 := HB1.out.cell 2 2 (w.heap.size + 1 + 1) _ _ _ rfl rfl rfl
      have v0 := HB1.out.frozen 2 0 (w.heap.size + 1 + 1) _ _ rfl rfl
      have v1 := HB1.out.frozen 2 1 (w.heap.size + 1 + 1) _ _ rfl rfl
      have v2 := HB1.out.frozen 2 2 (w.heap.size + 1 + 1) _ _ rfl rfl
      have hstop : Hid (posT T i = q → LedV (((wr.setCell ⟨w.heap.size + 1 + 1, 0, none⟩ (.slice (some ⟨g, 0, none⟩) (T.length + 1) c)).setCell ⟨w.heap.size + 1 + 1, 1, none⟩ (.slice o2 P.length c2)).setCell ⟨w.heap.size + 1 + 1, 2, none⟩ (.slice o3 V.length c3)) (lg (some ⟨g, 0, none⟩) o2 o3 (T.length + 1) c P.length c2 V.length c3) (soldT T (⟨i, k, f, t, z, r⟩ : TK)) P V ∧ Below w.heap.size w (((wr.setCell ⟨w.heap.size + 1 + 1, 0, none⟩ (.slice (some ⟨g, 0, none⟩) (T.length + 1) c)).setCell ⟨w.heap.size + 1 + 1, 1, none⟩ (.slice o2 P.length c2)).setCell ⟨w.heap.size + 1 + 1, 2, none⟩ (.slice o3 V.length c3))) := by
        refine hide (fun hp => ?_)
        have hb := (((HB1.out.2.2.setCell (p := ⟨w.heap.size + 1 + 1, 0, none⟩) (by simp; omega) (.slice (some ⟨g, 0, none⟩) (T.length + 1) c)).setCell (p := ⟨w.heap.size + 1 + 1, 1, none⟩) (by simp; omega) (.slice o2 P.length c2)).setCell (p := ⟨w.heap.size + 1 + 1, 2, none⟩) (by simp; omega) (.slice o3 V.length c3))
        have hf : Fresh (w.heap.size + 1 + 1 + 1) (.slice (some ⟨g, 0, none⟩) (T.length + 1) c) := fun n hn => by simp [Value.ownBlock] at hn; omega
        have ht := tiksV_own hO.out
        have ht2 := ((ht.set hf (p := ⟨w.heap.size + 1 + 1, 0, none⟩) (by simp) (.slice (some ⟨g, 0, none⟩) (T.length + 1) c)).set hf (p := ⟨w.heap.size + 1 + 1, 1, none⟩) (by simp) (.slice o2 P.length c2)).set hf (p := ⟨w.heap.size + 1 + 1, 2, none⟩) (by simp) (.slice o3 V.length c3)
        refine ⟨⟨_, _, _, rfl, ?_, HP.out.below hb, HV.out.below hb⟩, hb⟩
        have he : soldT T (⟨i, k, f, t, z, r⟩ : TK) = T.take q ++ [(⟨i, k, f, t, z, r⟩ : TK)] ++ T.drop q := by rw [soldT, hp]
        rw [he]
        exact ht2
      rcases q with _ | q'
      · have HSt := hide (hstop.out (posT_of (by omega) (fun p x _ hp => by omega) (fun p x hx _ => by
          rcases p with _ | p
          · have := hG.out x hx; omega
          · obtain ⟨y, hy⟩ : ∃ y, T[0]? = some y := ⟨T[0]'(by have := (List.getElem?_eq_some_iff.1 hx).1; omega), by simp⟩
            have h1 := hG.out y hy
            have h2 := HR.out 0 (p + 1) y x hy hx (by omega)
            omega)))
        clear hO hG hstop
        go_wp2_with fail
        go_region
        go_wp2_with fail
        refine bodyPost_ret (v := .tuple #[lg (some ⟨g, 0, none⟩) o2 o3 (T.length + 1) c P.length c2 V.length c3, .int .i64 0]) (by simp [results, Try.results22, go_sem, *]) rfl ⟨⟨_, rfl, ?_⟩, ?_⟩
        · exact HSt.out.1.drewL
        · exact HSt.out.2.drew
      · obtain ⟨y, hy⟩ : ∃ y, T[q']? = some y := ⟨T[q']'(by omega), by simp⟩
        have cx := tik_at T (⟨i, k, f, t, z, r⟩ : TK) (q' + 1) hq
        have cy := tik_before T (⟨i, k, f, t, z, r⟩ : TK) y q' hy
        have hl6 : (q' + 1) * 6 + 5 < (T.length + 1) * 6 := by omega
        have a0 : wr.cell? ⟨g, (q' + 1) * 6, none⟩ = some (.int .i64 i) := by rw [hO.out.cellAt _ (by omega)]; exact cx 0 (by decide)
        have a1 : wr.cell? ⟨g, (q' + 1) * 6 + 1, none⟩ = some (.int .i64 k) := by rw [hO.out.cellAt _ (by omega)]; exact cx 1 (by decide)
        have a2 : wr.cell? ⟨g, (q' + 1) * 6 + 2, none⟩ = some (.int .i64 f) := by rw [hO.out.cellAt _ (by omega)]; exact cx 2 (by decide)
        have a3 : wr.cell? ⟨g, (q' + 1) * 6 + 3, none⟩ = some (.int .i64 t) := by rw [hO.out.cellAt _ (by omega)]; exact cx 3 (by decide)
        have a4 : wr.cell? ⟨g, (q' + 1) * 6 + 4, none⟩ = some (.int .i64 z) := by rw [hO.out.cellAt _ (by omega)]; exact cx 4 (by decide)
        have a5 : wr.cell? ⟨g, (q' + 1) * 6 + 5, none⟩ = some (.int .i64 r) := by rw [hO.out.cellAt _ (by omega)]; exact cx 5 (by decide)
        have d0 : wr.cell? ⟨g, q' * 6, none⟩ = some (.int .i64 y.i) := by rw [hO.out.cellAt _ (by omega)]; exact cy 0 (by decide)
        have d1 : wr.cell? ⟨g, q' * 6 + 1, none⟩ = some (.int .i64 y.k) := by rw [hO.out.cellAt _ (by omega)]; exact cy 1 (by decide)
        have d2 : wr.cell? ⟨g, q' * 6 + 2, none⟩ = some (.int .i64 y.f) := by rw [hO.out.cellAt _ (by omega)]; exact cy 2 (by decide)
        have d3 : wr.cell? ⟨g, q' * 6 + 3, none⟩ = some (.int .i64 y.t) := by rw [hO.out.cellAt _ (by omega)]; exact cy 3 (by decide)
        have d4 : wr.cell? ⟨g, q' * 6 + 4, none⟩ = some (.int .i64 y.z) := by rw [hO.out.cellAt _ (by omega)]; exact cy 4 (by decide)
        have d5 : wr.cell? ⟨g, q' * 6 + 5, none⟩ = some (.int .i64 y.r) := by rw [hO.out.cellAt _ (by omega)]; exact cy 5 (by decide)
        have hadd1 := own_addr' g ((q' + 1) * 6)
        have hadd0 := own_addr' g (q' * 6)
        clear cx cy
        by_cases hlt : i < y.i
        · have z0 := hO.out.frozenAt ((q' + 1) * 6)
          have z1 := hO.out.frozenAt ((q' + 1) * 6 + 1)
          have z2 := hO.out.frozenAt ((q' + 1) * 6 + 2)
          have z3 := hO.out.frozenAt ((q' + 1) * 6 + 3)
          have z4 := hO.out.frozenAt ((q' + 1) * 6 + 4)
          have z5 := hO.out.frozenAt ((q' + 1) * 6 + 5)
          have e0 := hO.out.frozenAt (q' * 6)
          have e1 := hO.out.frozenAt (q' * 6 + 1)
          have e2 := hO.out.frozenAt (q' * 6 + 2)
          have e3 := hO.out.frozenAt (q' * 6 + 3)
          have e4 := hO.out.frozenAt (q' * 6 + 4)
          have e5 := hO.out.frozenAt (q' * 6 + 5)
          have HO' := hide (((((((((((((hO.out.stored ((q' + 1) * 6) (.int .i64 y.i)).1.stored ((q' + 1) * 6 + 1) (.int .i64 y.k)).1.stored ((q' + 1) * 6 + 2) (.int .i64 y.f)).1.stored ((q' + 1) * 6 + 3) (.int .i64 y.t)).1.stored ((q' + 1) * 6 + 4) (.int .i64 y.z)).1.stored ((q' + 1) * 6 + 5) (.int .i64 y.r)).1.stored (q' * 6) (.int .i64 i)).1.stored (q' * 6 + 1) (.int .i64 k)).1.stored (q' * 6 + 2) (.int .i64 f)).1.stored (q' * 6 + 3) (.int .i64 t)).1.stored (q' * 6 + 4) (.int .i64 z)).1.stored (q' * 6 + 5) (.int .i64 r)).1)
          have HS := hide (swap_tik T (⟨i, k, f, t, z, r⟩ : TK) y q' hy)
          have HG' : Hid (∀ u, T[q']? = some u → i < u.i) := fun u hu => by
            rw [hy] at hu
            cases hu
            exact hlt
          clear hstop hG u0 u1 u2 v0 v1 v2 hy
          go_wp2_with fail
          go_region
          go_wp2_with fail
          go_region
          have HO2 := HO'.out
          rw [HS.out] at HO2
          have HO3 := hide HO2.drew.drew
          have HB3 := hide ((((((((((((((HB1.out.set ⟨g, (q' + 1) * 6, none⟩ (by simp; omega) (.int .i64 y.i)).set ⟨g, (q' + 1) * 6 + 1, none⟩ (by simp; omega) (.int .i64 y.k)).set ⟨g, (q' + 1) * 6 + 2, none⟩ (by simp; omega) (.int .i64 y.f)).set ⟨g, (q' + 1) * 6 + 3, none⟩ (by simp; omega) (.int .i64 y.t)).set ⟨g, (q' + 1) * 6 + 4, none⟩ (by simp; omega) (.int .i64 y.z)).set ⟨g, (q' + 1) * 6 + 5, none⟩ (by simp; omega) (.int .i64 y.r)).set ⟨g, q' * 6, none⟩ (by simp; omega) (.int .i64 i)).set ⟨g, q' * 6 + 1, none⟩ (by simp; omega) (.int .i64 k)).set ⟨g, q' * 6 + 2, none⟩ (by simp; omega) (.int .i64 f)).set ⟨g, q' * 6 + 3, none⟩ (by simp; omega) (.int .i64 t)).set ⟨g, q' * 6 + 4, none⟩ (by simp; omega) (.int .i64 z)).set ⟨g, q' * 6 + 5, none⟩ (by simp; omega) (.int .i64 r)).on (Below.refl _ _).drew).on (Below.refl _ _).drew)
          have HB4 := hide ((((((((((((((HB2.out.set ⟨g, (q' + 1) * 6, none⟩ (by simp; omega) (.int .i64 y.i)).set ⟨g, (q' + 1) * 6 + 1, none⟩ (by simp; omega) (.int .i64 y.k)).set ⟨g, (q' + 1) * 6 + 2, none⟩ (by simp; omega) (.int .i64 y.f)).set ⟨g, (q' + 1) * 6 + 3, none⟩ (by simp; omega) (.int .i64 y.t)).set ⟨g, (q' + 1) * 6 + 4, none⟩ (by simp; omega) (.int .i64 y.z)).set ⟨g, (q' + 1) * 6 + 5, none⟩ (by simp; omega) (.int .i64 y.r)).set ⟨g, q' * 6, none⟩ (by simp; omega) (.int .i64 i)).set ⟨g, q' * 6 + 1, none⟩ (by simp; omega) (.int .i64 k)).set ⟨g, q' * 6 + 2, none⟩ (by simp; omega) (.int .i64 f)).set ⟨g, q' * 6 + 3, none⟩ (by simp; omega) (.int .i64 t)).set ⟨g, q' * 6 + 4, none⟩ (by simp; omega) (.int .i64 z)).set ⟨g, q' * 6 + 5, none⟩ (by simp; omega) (.int .i64 r)).on (Below.refl _ _).drew).on (Below.refl _ _).drew)
          clear HO' HO2 hO HB1 HB2 HS
          go_wp2_with fail
          exact ⟨⟨q', by omega, by simp, HO3, HG', HB3, HB4⟩, by simp [intOf]⟩
        · have HSt := hide (hstop.out (posT_of (by omega) (fun p x hx hp => by
            rcases Nat.lt_or_ge p q' with h1 | h1
            · have := HR.out p q' x y hx hy h1
              have := noT HNo.out hy
              omega
            · obtain rfl : p = q' := by omega
              rw [hy] at hx
              cases hx
              have := noT HNo.out hy
              omega) (fun p x hx hp => by
            obtain ⟨y2, hy2⟩ : ∃ y2, T[q' + 1]? = some y2 := ⟨T[q' + 1]'(by have := (List.getElem?_eq_some_iff.1 hx).1; omega), by simp⟩
            have h1 := hG.out y2 hy2
            rcases Nat.lt_or_ge (q' + 1) p with h2 | h2
            · have := HR.out _ _ _ _ hy2 hx h2
              omega
            · obtain rfl : p = q' + 1 := by omega
              rw [hy2] at hx
              cases hx
              omega)))
          clear hO hG hstop
          go_wp2_with fail
          go_region
          go_wp2_with fail
          refine bodyPost_ret (v := .tuple #[lg (some ⟨g, 0, none⟩) o2 o3 (T.length + 1) c P.length c2 V.length c3, .int .i64 0]) (by simp [results, Try.results22, go_sem, *]) rfl ⟨⟨_, rfl, ?_⟩, ?_⟩
          · exact HSt.out.1.drewL
          · exact HSt.out.2.drew

end Go.Proofs.Ytcakfmpckbmdeab
