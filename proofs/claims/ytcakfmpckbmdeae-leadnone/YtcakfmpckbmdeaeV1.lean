/-
  Views: as cells of a row, in memory, opened out of the row; 'slices.Clone' of views.
-/
import Derived.Test.YtcakfmpckbmdeaeO3
import Derived.Test.YtcakfmpckbmdeaeK2
import Derived.Test.YtcakfmpckbmdeaeG0
namespace Go.Proofs.Ytcakfmpckbmdeae
open Go.ChangeShapes Go.WideShapes Go.ChangeAt Go.RowKit Go.Deep

/-- a view -/
structure VW where
  e : Int
  l : Int
  u : Bool

/-- a view, as the model holds it -/
abbrev vwV (e l : Int) (u : Bool) : Value := .agg #[.int .i64 e, .int .i64 l, .bool u]

/-- a view that lies in memory -/
structure Vw3 (w : World) (b : Addr) (p : VW) : Prop where
  c0 : w.cell? b = some (.int .i64 p.e)
  c1 : w.cell? ⟨b.block, b.off + 1, none⟩ = some (.int .i64 p.l)
  c2 : w.cell? ⟨b.block, b.off + 2, none⟩ = some (.bool p.u)

theorem Vw3.lt {w : World} {b : Addr} {p : VW} (h : Vw3 w b p) : b.block < w.heap.size := World.block_lt_of_cell? w b h.c0

theorem Vw3.below {B : Nat} {w w' : World} {b : Addr} {p : VW} (h : Vw3 w b p) (hb : Below B w w') (hlt : b.block < B) : Vw3 w' b p :=
  ⟨by rw [hb.cell hlt]; exact h.c0, by rw [hb.cell (p := ⟨b.block, b.off + 1, none⟩) hlt]; exact h.c1, by rw [hb.cell (p := ⟨b.block, b.off + 2, none⟩) hlt]; exact h.c2⟩

/-- views that lie in memory from an address on -/
def VwsAt (w : World) (o : Option Addr) (L : List VW) : Prop := ∀ i p, L[i]? = some p → ∃ b, o = some b ∧ Vw3 w (b.add (i * 3)) p

theorem VwsAt.below {w w' : World} {o : Option Addr} {L : List VW} (h : VwsAt w o L) (hb : Below w.heap.size w w') : VwsAt w' o L :=
  fun i p hi => have ⟨b, e, h5⟩ := h i p hi; ⟨b, e, h5.below hb h5.lt⟩

theorem cellsVw : Try.prog.cellsOf 106 = 3 := by kernel_rfl
theorem cellsBl : Try.prog.cellsOf 4 = 1 := by kernel_rfl
theorem infoVw : (Try.prog.info? 106).map (fun i => (i.zero, i.size, i.bytes)) = some (some (.agg #[.int .i64 0, .int .i64 0, .bool false]), 3, 24) := by kernel_rfl

/-- the cells of views -/
def cellsW (L : List VW) : List Value := L.flatMap fun p => [.int .i64 p.e, .int .i64 p.l, .bool p.u]

theorem cellsW_len (L : List VW) : (cellsW L).length = L.length * 3 := by
  induction L with
  | nil => rfl
  | cons p L ih =>
    rw [cellsW, List.flatMap_cons, List.length_append, List.length_cons, ← cellsW, ih]
    simp; omega

theorem cellsW_app (L M : List VW) : cellsW (L ++ M) = cellsW L ++ cellsW M := by simp [cellsW]

theorem cellsW_get (L : List VW) (i : Nat) (p : VW) (h : L[i]? = some p) (j : Nat) (hj : j < 3) : (cellsW L)[i * 3 + j]? = [Value.int .i64 p.e, .int .i64 p.l, .bool p.u][j]? := by
  induction L generalizing i with
  | nil => simp at h
  | cons q L ih =>
    rw [cellsW, List.flatMap_cons, ← cellsW]
    match i, h with
    | 0, h =>
      simp at h
      subst h
      rw [List.getElem?_append_left (by simp; omega)]
      simp
    | i + 1, h =>
      rw [List.getElem?_append_right (by simp; omega)]
      simp only [List.length_cons, List.length_nil]
      rw [show (i + 1) * 3 + j - (0 + 1 + 1 + 1) = i * 3 + j by omega]
      exact ih i (by simpa using h)

theorem oneW (L : List VW) : ∀ u ∈ cellsW L, u.oneCell' = true := by
  intro u hu
  simp only [cellsW, List.mem_flatMap, List.mem_cons, List.not_mem_nil, or_false] at hu
  obtain ⟨p, -, h⟩ := hu
  rcases h with rfl | rfl | rfl <;> rfl

theorem vws_cells {w : World} {A : Addr} {L : List VW} (h : VwsAt w (some A) L) : ∀ j u, (cellsW L)[j]? = some u → w.cell? (A.add j) = some u := by
  intro j u hu
  have hlt := (List.getElem?_eq_some_iff.1 hu).1
  rw [cellsW_len] at hlt
  obtain ⟨p, hp⟩ : ∃ p, L[j / 3]? = some p := ⟨L[j / 3]'(by omega), by simp⟩
  obtain ⟨b, hb, c0, c1, c2⟩ := h _ p hp
  cases hb
  have hj : j = j / 3 * 3 + j % 3 := by omega
  have hr : j % 3 < 3 := by omega
  have e := cellsW_get L _ p hp (j % 3) hr
  rw [← hj, hu] at e
  generalize j / 3 = q at *
  generalize j % 3 = r at *
  subst hj
  match r, hr, e with
  | 0, _, e => simp at e; subst e; exact c0
  | 1, _, e => simp at e; subst e; rw [← addr_off _ _ _ (by decide)]; exact c1
  | 2, _, e => simp at e; subst e; rw [← addr_off _ _ _ (by decide)]; exact c2

/-- views that lie behind a slice -/
def VwsV (w : World) (v : Value) (L : List VW) : Prop := ∃ o cap, v = .slice o L.length cap ∧ VwsAt w o L ∧ L.length ≤ cap ∧ (o = none → cap = 0)
theorem VwsV.below {w w' : World} {v : Value} {L : List VW} (h : VwsV w v L) (hb : Below w.heap.size w w') : VwsV w' v L := have ⟨o, c, e, h1, h2⟩ := h; ⟨o, c, e, h1.below hb, h2⟩

theorem vwsV_own {w : World} {base n : Nat} {v : Value} {L : List VW} (h : w.ownsRow base 106 3 v n (cellsW L)) : VwsV w v L := by
  have hn : n = L.length := by have := h.1; rw [cellsW_len] at this; omega
  subst hn
  have hc := fun g => h.cells (g := g)
  rcases h.2 with ⟨rfl, h0⟩ | ⟨g, cap, cur, rfl, -, -, hcap, -⟩
  · have : L = [] := List.eq_nil_of_length_eq_zero h0
    subst this
    exact ⟨none, 0, rfl, fun i p hi => by simp at hi, by simp, fun _ => rfl⟩
  · refine ⟨_, cap, rfl, fun i p hi => ⟨_, rfl, ?_⟩, hcap, fun h => by cases h⟩
    have e := fun j hj => cellsW_get L i p hi j hj
    have c := fun j u hu => hc g rfl (i * 3 + j) u hu
    refine ⟨?_, ?_, ?_⟩
    · have := c 0 _ (e 0 (by omega))
      simpa using this
    · rw [addr_off _ _ _ (by decide)]; exact c 1 _ (e 1 (by omega))
    · rw [addr_off _ _ _ (by decide)]; exact c 2 _ (e 2 (by omega))

section
variable {H : Type} {enc : TypeId × Value → H}

theorem three_of {W : World} {base fuel : Nat} {sp : Nat → Bool} {hd : Bool} {cs : List Value} {x : DataW H × List MemPlace} (hsz : cs.length = 3) (h : DataW.trod enc Try.prog W base sp hd fuel 106 cs = some x) :
    ∃ (e l : Int) (u : Bool), cs = [.int .i64 e, .int .i64 l, .bool u] := by
  match cs, hsz with
  | [c0, c1, c2], _ =>
  obtain ⟨xs, n, _, hx, hl, hlen, hfs⟩ := DataW.trod_struct Try.underlying106 h
  match xs, hlen with
  | [y0, y1, y2], _ =>
  have g0 := hfs 0 _ rfl
  have g1 := hfs 1 _ rfl
  have g2 := hfs 2 _ rfl
  simp [cells3', cellsBl] at g0 g1 g2
  obtain ⟨i, e0, -⟩ := DataW.trod_int Try.underlying3 g0
  obtain ⟨k, e1, -⟩ := DataW.trod_int Try.underlying3 g1
  obtain ⟨f, e2, -⟩ := DataW.trod_bool Try.underlying4 g2
  simp only [List.cons.injEq, and_true] at e0 e1 e2
  subst e0 e1 e2
  exact ⟨i, k, f, rfl⟩

/-- what is known of views that were handed in -/
def VwsOk (W : World) (o : Option Addr) (L : List VW) (c : Nat) : Prop := VwsAt W o L ∧ L.length ≤ 9223372036854775807 ∧ L.length ≤ c ∧ (o = none → c = 0)

theorem vws_ofV {W : World} {base fuel : Nat} {sp : Nat → Bool} {hd : Bool} {cs : List Value} {x : DataW H × List MemPlace} (h : DataW.trod enc Try.prog W base sp hd fuel 56 cs = some x) :
    ∃ (o : Option Addr) (L : List VW) (cap : Nat), cs = [.slice o L.length cap] ∧ VwsOk W o L cap := by
  rcases open_slice Try.underlying56 h with ⟨rfl, -⟩ | ⟨a, len, cap, m, n, D, Pl, rfl, hb, hl, hm, hmm, -, hx⟩
  · exact ⟨none, [], 0, rfl, fun i p h => by simp at h, by simp, by simp, fun _ => rfl⟩
  · rw [cellsVw] at hx
    have hle : len ≤ m := by rw [hmm]; split <;> omega
    have hT : ∀ i, i < len → ∃ p : VW, Vw3 W (a.add (i * 3)) p := by
      intro i hi
      obtain ⟨cs', h1, h2⟩ := hx i (by omega)
      obtain ⟨_, hlen, hc⟩ := World.cells?_some h1
      obtain ⟨b0, b1, b2, rfl⟩ := three_of hlen h2
      refine ⟨⟨b0, b1, b2⟩, ?_, ?_, ?_⟩
      · simpa [Addr.add] using hc 0 (by omega)
      · simpa [Addr.add] using hc 1 (by omega)
      · simpa [Addr.add] using hc 2 (by omega)
    haveI : Inhabited VW := ⟨⟨0, 0, false⟩⟩
    obtain ⟨F, hF⟩ := choose_lt hT
    refine ⟨some a, (List.range len).map F, cap, by simp, ?_, ?_, by simpa using hl, fun h => by cases h⟩
    · intro i p hi
      rw [List.getElem?_map, Option.map_eq_some_iff] at hi
      obtain ⟨j, hj, rfl⟩ := hi
      obtain ⟨hlt, rfl⟩ : i < len ∧ i = j := by simpa using List.getElem?_eq_some_iff.1 hj
      exact ⟨a, rfl, hF i hlt⟩
    · have : maxLen = 9223372036854775807 := rfl
      simp
      omega

set_option maxRecDepth 100000 in
theorem open_vws {W : World} {base : Nat} {sp : Nat → Bool} {v : Value} {d : DataW H} {p : List MemPlace} (hval : Value.okWide Try.prog W .any base 56 v) (h : DataW.Trod enc Try.prog W 0 sp true 56 v d p) :
    ∃ (o : Option Addr) (L : List VW) (c : Nat), v = .slice o L.length c ∧ VwsOk W o L c := by
  obtain ⟨o, len, cap, rfl⟩ := okWide_slice Try.underlying56 hval
  obtain ⟨fuel, hf⟩ := h
  obtain ⟨o', L, cap', e, h1⟩ := vws_ofV hf
  simp [Value.cells] at e
  obtain ⟨rfl, rfl, rfl⟩ := e
  exact ⟨o, L, cap, rfl, h1⟩
end

set_option maxHeartbeats 1600000 in
theorem cloneW_any (L : List VW) (o : Option Addr) (cap : Nat) (w : World) (hL : VwsAt w o L) (hlen : L.length ≤ 60) :
    Calls Try.prog 69 #[.slice o L.length cap] w fun e w' => (∃ v, e = .returned v ∧ VwsV w' v L ∧ Fresh w.heap.size v) ∧ Below w.heap.size w w' := by
  obtain ⟨i0, hi, hz0, hz1, hz2⟩ := info_parts infoVw
  have q : ∀ (w : World) (a : Option Addr) (n c n' c' : Nat), (binOp .eql 56 (.slice a n c) (.slice none n' c')).run Try.prog w = .ok (.bool a.isNone) w := fun w a n c n' c' => Lib.run_eql_slice_nil w _ _ a n c n' c' Try.underlying56
  cases o with
  | none =>
    have hL0 : L = [] := by
      cases L with
      | nil => rfl
      | cons x L => obtain ⟨b, hb, -⟩ := hL 0 x rfl; cases hb
    subst hL0
    go_enter Try.func69, Try.ntmps69
    go_wp2
    go_ret
    exact ⟨⟨_, rfl, ⟨none, 0, rfl, fun i p hi => by simp at hi, by simp, fun _ => rfl⟩, fun k hk => by simp [Value.ownBlock] at hk⟩, Below.refl _ _⟩
  | some A =>
    have HN := hide (vws_cells (hL.below ((Below.refl w.heap.size w).alloc (Nat.le_refl _) (.cells #[] 106))))
    have HO := hide (World.ownsRow_made (base := w.heap.size) (e := 106) (size := 3) w #[] 0 (Nat.le_refl _) (by decide) rfl)
    clear hL
    go_enter Try.func69, Try.ntmps69
    go_wp2_with (at_builtin; refine wpList_append_own _ rfl _ _ 56 rfl w.heap.size 106 i0 _ 3 24 Try.underlying56 hi hz0 hz1 hz2 rfl (by decide) _ 0 _ rfl HO.out A L.length cap (cellsW L) rfl (cellsW_len L) HN.out (oneW L) (by unfold maxLen; omega) (by omega) (by simp) ?_; intro v1 w1 hown1 hgrow1 _)
    go_ret
    exact ⟨⟨_, rfl, vwsV_own hown1, fun k hk => (hown1.lt k hk).1⟩, ((Below.refl w.heap.size w).alloc (Nat.le_refl _) _).grown hgrow1 (by simp) (fun k hk => (HO.out.lt k hk).1)⟩
end Go.Proofs.Ytcakfmpckbmdeae
