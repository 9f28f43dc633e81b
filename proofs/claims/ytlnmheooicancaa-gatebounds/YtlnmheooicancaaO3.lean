/-
  Lists, gates, tickets, taps and integers opened, out of the row.
-/
import Derived.Test.YtlnmheooicancaaO1
import Derived.Test.YtlnmheooicancaaK1
namespace Go.Proofs.Ytlnmheooicancaa
open Go.ChangeShapes Go.WideShapes Go.ChangeAt Go.RowKit Go.Deep

theorem cellsDen : Try.prog.cellsOf 25 = 2 := by kernel_rfl
theorem cellsGate : Try.prog.cellsOf 29 = 8 := by kernel_rfl
theorem cellsBud : Try.prog.cellsOf 27 = 2 := by kernel_rfl

section
variable {H : Type} {enc : TypeId × Value → H}

theorem taps_ofV {W : World} {base fuel : Nat} {sp : Nat → Bool} {hd : Bool} {cs : List Value} {x : DataW H × List MemPlace} (h : DataW.trod enc Try.prog W base sp hd fuel 22 cs = some x) :
    ∃ (o : Option Addr) (L : List TP) (cap : Nat), cs = [.slice o L.length cap] ∧ TapsAt W o L ∧ L.length ≤ 9223372036854775807 ∧ L.length ≤ cap ∧ (o = none → cap = 0) := by
  rcases open_slice Try.underlying22 h with ⟨rfl, -⟩ | ⟨a, len, cap, m, n, D, Pl, rfl, hb, hl, hm, hmm, -, hx⟩
  · exact ⟨none, [], 0, rfl, fun i p h => by simp at h, by simp, by simp, fun _ => rfl⟩
  · rw [cells32] at hx
    have hle : len ≤ m := by rw [hmm]; split <;> omega
    have hT : ∀ i, i < len → ∃ p : TP, Tap5 W (a.add (i * 5)) p := by
      intro i hi
      obtain ⟨cs', h1, h2⟩ := hx i (by omega)
      obtain ⟨_, hlen, hc⟩ := World.cells?_some h1
      obtain ⟨b0, b1, b2, b3, b4, rfl⟩ := five_of hlen h2
      refine ⟨⟨b0, b1, b2, b3, b4⟩, ?_, ?_, ?_, ?_, ?_⟩
      · simpa [Addr.add] using hc 0 (by omega)
      · simpa [Addr.add] using hc 1 (by omega)
      · simpa [Addr.add] using hc 2 (by omega)
      · simpa [Addr.add] using hc 3 (by omega)
      · simpa [Addr.add] using hc 4 (by omega)
    haveI : Inhabited TP := ⟨⟨0, 0, 0, 0, 0⟩⟩
    obtain ⟨F, hF⟩ := choose_lt hT
    refine ⟨some a, (List.range len).map F, cap, by simp, ?_, ?_, by simpa using hl, fun h => by cases h⟩
    · intro i p hi
      rw [List.getElem?_map, Option.map_eq_some_iff] at hi
      obtain ⟨j, hj, rfl⟩ := hi
      obtain ⟨hlt, rfl⟩ : i < len ∧ i = j := by simpa using List.getElem?_eq_some_iff.1 hj
      exact ⟨a, rfl, hF i hlt⟩
    · have : maxLen = 9223372036854775807 := rfl
      simp
      omega

theorem tiks_ofV {W : World} {base fuel : Nat} {sp : Nat → Bool} {hd : Bool} {cs : List Value} {x : DataW H × List MemPlace} (h : DataW.trod enc Try.prog W base sp hd fuel 30 cs = some x) :
    ∃ (o : Option Addr) (L : List TK) (cap : Nat), cs = [.slice o L.length cap] ∧ TiksAt W o L ∧ L.length ≤ 9223372036854775807 ∧ L.length ≤ cap ∧ (o = none → cap = 0) := by
  rcases open_slice Try.underlying30 h with ⟨rfl, -⟩ | ⟨a, len, cap, m, n, D, Pl, rfl, hb, hl, hm, hmm, -, hx⟩
  · exact ⟨none, [], 0, rfl, fun i p h => by simp at h, by simp, by simp, fun _ => rfl⟩
  · rw [cells23] at hx
    have hle : len ≤ m := by rw [hmm]; split <;> omega
    have hT : ∀ i, i < len → ∃ p : TK, Tik6 W (a.add (i * 6)) p := by
      intro i hi
      obtain ⟨cs', h1, h2⟩ := hx i (by omega)
      obtain ⟨_, hlen, hc⟩ := World.cells?_some h1
      obtain ⟨b0, b1, b2, b3, b4, b5, rfl⟩ := six_of hlen h2
      refine ⟨⟨b0, b1, b2, b3, b4, b5⟩, ?_, ?_, ?_, ?_, ?_, ?_⟩
      · simpa [Addr.add] using hc 0 (by omega)
      · simpa [Addr.add] using hc 1 (by omega)
      · simpa [Addr.add] using hc 2 (by omega)
      · simpa [Addr.add] using hc 3 (by omega)
      · simpa [Addr.add] using hc 4 (by omega)
      · simpa [Addr.add] using hc 5 (by omega)
    haveI : Inhabited TK := ⟨⟨0, 0, 0, 0, 0, 0⟩⟩
    obtain ⟨F, hF⟩ := choose_lt hT
    refine ⟨some a, (List.range len).map F, cap, by simp, ?_, ?_, by simpa using hl, fun h => by cases h⟩
    · intro i p hi
      rw [List.getElem?_map, Option.map_eq_some_iff] at hi
      obtain ⟨j, hj, rfl⟩ := hi
      obtain ⟨hlt, rfl⟩ : i < len ∧ i = j := by simpa using List.getElem?_eq_some_iff.1 hj
      exact ⟨a, rfl, hF i hlt⟩
    · have : maxLen = 9223372036854775807 := rfl
      simp
      omega

theorem ints_ofV {W : World} {base fuel : Nat} {sp : Nat → Bool} {hd : Bool} {cs : List Value} {x : DataW H × List MemPlace} (h : DataW.trod enc Try.prog W base sp hd fuel 23 cs = some x) :
    ∃ (o : Option Addr) (L : List Int) (cap : Nat), cs = [.slice o L.length cap] ∧ IntsAt W o L ∧ L.length ≤ 9223372036854775807 ∧ L.length ≤ cap ∧ (o = none → cap = 0) := by
  rcases open_slice1 Try.underlying23 cells3' h with ⟨rfl, -⟩ | ⟨a, len, cap, m, n, V, D, Pl, rfl, hb, hl, hm, hmm, -, hx⟩
  · exact ⟨none, [], 0, rfl, fun i p h => by simp at h, by simp, by simp, fun _ => rfl⟩
  · have hle : len ≤ m := by rw [hmm]; split <;> omega
    have hT : ∀ i, i < len → ∃ p : Int, W.cell? (a.add i) = some (.int .i64 p) := by
      intro i hi
      obtain ⟨h1, h2⟩ := hx i (by omega)
      obtain ⟨k, e0, -⟩ := DataW.trod_int Try.underlying3 h2
      simp only [List.cons.injEq, and_true] at e0
      exact ⟨k, by rw [h1, e0]⟩
    obtain ⟨F, hF⟩ := choose_lt hT
    refine ⟨some a, (List.range len).map F, cap, by simp, ?_, ?_, by simpa using hl, fun h => by cases h⟩
    · intro i p hi
      rw [List.getElem?_map, Option.map_eq_some_iff] at hi
      obtain ⟨j, hj, rfl⟩ := hi
      obtain ⟨hlt, rfl⟩ : i < len ∧ i = j := by simpa using List.getElem?_eq_some_iff.1 hj
      exact ⟨a, rfl, hF i hlt⟩
    · have : maxLen = 9223372036854775807 := rfl
      simp
      omega

/-- what is known of a list that was handed in -/
def IntsOk (W : World) (o : Option Addr) (L : List Int) (c : Nat) : Prop := IntsAt W o L ∧ L.length ≤ 9223372036854775807 ∧ L.length ≤ c ∧ (o = none → c = 0)
def TapsOk (W : World) (o : Option Addr) (L : List TP) (c : Nat) : Prop := TapsAt W o L ∧ L.length ≤ 9223372036854775807 ∧ L.length ≤ c ∧ (o = none → c = 0)
def TiksOk (W : World) (o : Option Addr) (L : List TK) (c : Nat) : Prop := TiksAt W o L ∧ L.length ≤ 9223372036854775807 ∧ L.length ≤ c ∧ (o = none → c = 0)

theorem den_of {W : World} {base fuel : Nat} {sp : Nat → Bool} {hd : Bool} {cs : List Value} {x : DataW H × List MemPlace} (hsz : cs.length = 2) (h : DataW.trod enc Try.prog W base sp hd fuel 25 cs = some x) :
    ∃ (v : Int) (o : Option Addr) (L : List Int) (c : Nat), cs = [.int .i64 v, .slice o L.length c] ∧ IntsOk W o L c := by
  match cs, hsz with
  | [d0, d1], _ =>
  obtain ⟨xs, n, _, hx, hl, hlen, hfs⟩ := DataW.trod_struct Try.underlying25 h
  match xs, hlen with
  | [y0, y1], _ =>
  have g0 := hfs 0 _ rfl
  have g1 := hfs 1 _ rfl
  simp [cells3', cells41] at g0 g1
  obtain ⟨k, e0, -⟩ := DataW.trod_int Try.underlying3 g0
  obtain ⟨o, L, c, e1, t1, t2, t3, t4⟩ := ints_ofV g1
  simp only [List.cons.injEq, and_true] at e0 e1
  subst e0 e1
  exact ⟨_, _, _, _, rfl, t1, t2, t3, t4⟩

set_option maxRecDepth 100000 in
theorem open_den {W : World} {base : Nat} {sp : Nat → Bool} {v : Value} {d : DataW H} {p : List MemPlace} (hval : Value.okWide Try.prog W .any base 25 v) (h : DataW.Trod enc Try.prog W 0 sp true 25 v d p) :
    ∃ (n : Int) (o : Option Addr) (L : List Int) (c : Nat), v = .agg #[.int .i64 n, .slice o L.length c] ∧ IntsOk W o L c := by
  obtain ⟨cs, rfl, hsz⟩ := okWide_struct Try.underlying25 hval
  rw [cellsDen] at hsz
  obtain ⟨l⟩ := cs
  obtain ⟨fuel, hf⟩ := h
  obtain ⟨n, o, L, c, e, hL⟩ := den_of (cs := l) hsz hf
  subst e
  exact ⟨n, o, L, c, rfl, hL⟩

set_option maxRecDepth 100000 in
theorem open_tiks {W : World} {base : Nat} {sp : Nat → Bool} {v : Value} {d : DataW H} {p : List MemPlace} (hval : Value.okWide Try.prog W .any base 30 v) (h : DataW.Trod enc Try.prog W 0 sp true 30 v d p) :
    ∃ (o : Option Addr) (L : List TK) (c : Nat), v = .slice o L.length c ∧ TiksOk W o L c := by
  obtain ⟨o, len, cap, rfl⟩ := okWide_slice Try.underlying30 hval
  obtain ⟨fuel, hf⟩ := h
  obtain ⟨o', L, cap', e, h1⟩ := tiks_ofV hf
  simp [Value.cells] at e
  obtain ⟨rfl, rfl, rfl⟩ := e
  exact ⟨o, L, cap, rfl, h1⟩

set_option maxRecDepth 100000 in
theorem open_ints {W : World} {base : Nat} {sp : Nat → Bool} {v : Value} {d : DataW H} {p : List MemPlace} (hval : Value.okWide Try.prog W .any base 23 v) (h : DataW.Trod enc Try.prog W 0 sp true 23 v d p) :
    ∃ (o : Option Addr) (L : List Int) (c : Nat), v = .slice o L.length c ∧ IntsOk W o L c := by
  obtain ⟨o, len, cap, rfl⟩ := okWide_slice Try.underlying23 hval
  obtain ⟨fuel, hf⟩ := h
  obtain ⟨o', L, cap', e, h1⟩ := ints_ofV hf
  simp [Value.cells] at e
  obtain ⟨rfl, rfl, rfl⟩ := e
  exact ⟨o, L, cap, rfl, h1⟩

/-- a gate, as the model holds it -/
abbrev gtV (i z s : Int) (oa : Option Addr) (na ca : Nat) (v : Int) (od : Option Addr) (nd cd : Nat) (l u : Int) : Value := .agg #[.int .i64 i, .int .i64 z, .int .i64 s, .slice oa na ca, .int .i64 v, .slice od nd cd, .int .i64 l, .int .i64 u]

set_option maxRecDepth 100000 in
theorem open_gate {W : World} {base : Nat} {sp : Nat → Bool} {v : Value} {d : DataW H} {p : List MemPlace} (hval : Value.okWide Try.prog W .any base 29 v) (h : DataW.Trod enc Try.prog W 0 sp true 29 v d p) :
    ∃ (i z s : Int) (oa : Option Addr) (La : List TP) (ca : Nat) (n : Int) (od : Option Addr) (Ld : List Int) (cd : Nat) (l u : Int), v = gtV i z s oa La.length ca n od Ld.length cd l u ∧ TapsOk W oa La ca ∧ IntsOk W od Ld cd := by
  obtain ⟨cs, rfl, hsz⟩ := okWide_struct Try.underlying29 hval
  rw [cellsGate] at hsz
  obtain ⟨cl⟩ := cs
  obtain ⟨fuel, hf⟩ := h
  match cl, hsz with
  | [d0, d1, d2, d3, d4, d5, d6, d7], _ =>
  obtain ⟨xs, m, _, hx, hl, hlen, hfs⟩ := DataW.trod_struct Try.underlying29 hf
  match xs, hlen with
  | [y0, y1, y2, y3, y4, y5], _ =>
  have g0 := hfs 0 _ rfl
  have g1 := hfs 1 _ rfl
  have g2 := hfs 2 _ rfl
  have g3 := hfs 3 _ rfl
  have g4 := hfs 4 _ rfl
  have g5 := hfs 5 _ rfl
  simp [Value.cells, cells3', cells30, cellsDen, cellsBud] at g0 g1 g2 g3 g4 g5
  obtain ⟨k0, e0, -⟩ := DataW.trod_int Try.underlying3 g0
  obtain ⟨k1, e1, -⟩ := DataW.trod_int Try.underlying3 g1
  obtain ⟨k2, e2, -⟩ := DataW.trod_int Try.underlying3 g2
  obtain ⟨oa, La, ca, e3, ha⟩ := taps_ofV g3
  obtain ⟨n, od, Ld, cd, e4, hd⟩ := den_of rfl g4
  obtain ⟨xs', m', _, hx', hl', hlen', hfs'⟩ := DataW.trod_struct Try.underlying27 g5
  match xs', hlen' with
  | [z0, z1], _ =>
  have f0 := hfs' 0 _ rfl
  have f1 := hfs' 1 _ rfl
  simp [cells3'] at f0 f1
  obtain ⟨k6, e6, -⟩ := DataW.trod_int Try.underlying3 f0
  obtain ⟨k7, e7, -⟩ := DataW.trod_int Try.underlying3 f1
  simp only [List.cons.injEq, and_true] at e0 e1 e2 e3 e4 e6 e7
  obtain ⟨e4, e5⟩ := e4
  subst e0 e1 e2 e3 e4 e5 e6 e7
  exact ⟨_, _, _, _, _, _, _, _, _, _, _, _, rfl, ha, hd⟩
end
end Go.Proofs.Ytlnmheooicancaa
