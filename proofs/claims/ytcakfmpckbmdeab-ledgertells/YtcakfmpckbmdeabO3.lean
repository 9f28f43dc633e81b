/-
  Lists, gates, tickets, taps and integers opened, out of the row.
-/
import Derived.Test.YtcakfmpckbmdeabO1
import Derived.Test.YtcakfmpckbmdeabK1
namespace Go.Proofs.Ytcakfmpckbmdeab
open Go.ChangeShapes Go.WideShapes Go.ChangeAt Go.RowKit Go.Deep

variable {H : Type} {enc : TypeId × Value → H}

theorem taps_ofV {W : World} {base fuel : Nat} {sp : Nat → Bool} {hd : Bool} {cs : List Value} {x : DataW H × List MemPlace} (h : DataW.trod enc Try.prog W base sp hd fuel 30 cs = some x) :
    ∃ (o : Option Addr) (L : List TP) (cap : Nat), cs = [.slice o L.length cap] ∧ TapsAt W o L ∧ L.length ≤ 9223372036854775807 ∧ L.length ≤ cap ∧ (o = none → cap = 0) := by
  rcases open_slice Try.underlying30 h with ⟨rfl, -⟩ | ⟨a, len, cap, m, n, D, Pl, rfl, hb, hl, hm, hmm, -, hx⟩
  · exact ⟨none, [], 0, rfl, fun i p h => by simp at h, by simp, by simp, fun _ => rfl⟩
  · rw [cells32] at hx
    have hle : len ≤ m := by rw [hmm]; split <;> omega
    have hT : ∀ i, i < len → ∃ p : TP, Tap5 W (a.add (i * 5)) p := by
      intro i hi
      obtain ⟨cs', h1, h2⟩ := hx i (by omega)
      obtain ⟨_, hlen, hc⟩ := World.cells?_some h1
      obtain ⟨b0, b1, b2, b3, b4, rfl⟩ := five_of hlen h2
      refine ⟨⟨b0, b1, b2, b3, b4⟩, ?_, ?_, ?_, ?_, ?_⟩
      · simpa [Addr.add] using hc 0 (by omega)
      · simpa [Addr.add] using hc 1 (by omega)
      · simpa [Addr.add] using hc 2 (by omega)
      · simpa [Addr.add] using hc 3 (by omega)
      · simpa [Addr.add] using hc 4 (by omega)
    haveI : Inhabited TP := ⟨⟨0, 0, 0, 0, 0⟩⟩
    obtain ⟨F, hF⟩ := choose_lt hT
    refine ⟨some a, (List.range len).map F, cap, by simp, ?_, ?_, by simpa using hl, fun h => by cases h⟩
    · intro i p hi
      rw [List.getElem?_map, Option.map_eq_some_iff] at hi
      obtain ⟨j, hj, rfl⟩ := hi
      obtain ⟨hlt, rfl⟩ : i < len ∧ i = j := by simpa using List.getElem?_eq_some_iff.1 hj
      exact ⟨a, rfl, hF i hlt⟩
    · have : maxLen = 9223372036854775807 := rfl
      simp
      omega

theorem tiks_ofV {W : World} {base fuel : Nat} {sp : Nat → Bool} {hd : Bool} {cs : List Value} {x : DataW H × List MemPlace} (h : DataW.trod enc Try.prog W base sp hd fuel 40 cs = some x) :
    ∃ (o : Option Addr) (L : List TK) (cap : Nat), cs = [.slice o L.length cap] ∧ TiksAt W o L ∧ L.length ≤ 9223372036854775807 ∧ L.length ≤ cap ∧ (o = none → cap = 0) := by
  rcases open_slice Try.underlying40 h with ⟨rfl, -⟩ | ⟨a, len, cap, m, n, D, Pl, rfl, hb, hl, hm, hmm, -, hx⟩
  · exact ⟨none, [], 0, rfl, fun i p h => by simp at h, by simp, by simp, fun _ => rfl⟩
  · rw [cells23] at hx
    have hle : len ≤ m := by rw [hmm]; split <;> omega
    have hT : ∀ i, i < len → ∃ p : TK, Tik6 W (a.add (i * 6)) p := by
      intro i hi
      obtain ⟨cs', h1, h2⟩ := hx i (by omega)
      obtain ⟨_, hlen, hc⟩ := World.cells?_some h1
      obtain ⟨b0, b1, b2, b3, b4, b5, rfl⟩ := six_of hlen h2
      refine ⟨⟨b0, b1, b2, b3, b4, b5⟩, ?_, ?_, ?_, ?_, ?_, ?_⟩
      · simpa [Addr.add] using hc 0 (by omega)
      · simpa [Addr.add] using hc 1 (by omega)
      · simpa [Addr.add] using hc 2 (by omega)
      · simpa [Addr.add] using hc 3 (by omega)
      · simpa [Addr.add] using hc 4 (by omega)
      · simpa [Addr.add] using hc 5 (by omega)
    haveI : Inhabited TK := ⟨⟨0, 0, 0, 0, 0, 0⟩⟩
    obtain ⟨F, hF⟩ := choose_lt hT
    refine ⟨some a, (List.range len).map F, cap, by simp, ?_, ?_, by simpa using hl, fun h => by cases h⟩
    · intro i p hi
      rw [List.getElem?_map, Option.map_eq_some_iff] at hi
      obtain ⟨j, hj, rfl⟩ := hi
      obtain ⟨hlt, rfl⟩ : i < len ∧ i = j := by simpa using List.getElem?_eq_some_iff.1 hj
      exact ⟨a, rfl, hF i hlt⟩
    · have : maxLen = 9223372036854775807 := rfl
      simp
      omega

theorem ints_ofV {W : World} {base fuel : Nat} {sp : Nat → Bool} {hd : Bool} {cs : List Value} {x : DataW H × List MemPlace} (h : DataW.trod enc Try.prog W base sp hd fuel 41 cs = some x) :
    ∃ (o : Option Addr) (L : List Int) (cap : Nat), cs = [.slice o L.length cap] ∧ IntsAt W o L ∧ L.length ≤ 9223372036854775807 ∧ L.length ≤ cap ∧ (o = none → cap = 0) := by
  rcases open_slice1 Try.underlying41 cells3' h with ⟨rfl, -⟩ | ⟨a, len, cap, m, n, V, D, Pl, rfl, hb, hl, hm, hmm, -, hx⟩
  · exact ⟨none, [], 0, rfl, fun i p h => by simp at h, by simp, by simp, fun _ => rfl⟩
  · have hle : len ≤ m := by rw [hmm]; split <;> omega
    have hT : ∀ i, i < len → ∃ p : Int, W.cell? (a.add i) = some (.int .i64 p) := by
      intro i hi
      obtain ⟨h1, h2⟩ := hx i (by omega)
      obtain ⟨k, e0, -⟩ := DataW.trod_int Try.underlying3 h2
      simp only [List.cons.injEq, and_true] at e0
      exact ⟨k, by rw [h1, e0]⟩
    obtain ⟨F, hF⟩ := choose_lt hT
    refine ⟨some a, (List.range len).map F, cap, by simp, ?_, ?_, by simpa using hl, fun h => by cases h⟩
    · intro i p hi
      rw [List.getElem?_map, Option.map_eq_some_iff] at hi
      obtain ⟨j, hj, rfl⟩ := hi
      obtain ⟨hlt, rfl⟩ : i < len ∧ i = j := by simpa using List.getElem?_eq_some_iff.1 hj
      exact ⟨a, rfl, hF i hlt⟩
    · have : maxLen = 9223372036854775807 := rfl
      simp
      omega

/-- what is known of a list that was handed in -/
def IntsOk (W : World) (o : Option Addr) (L : List Int) (c : Nat) : Prop := IntsAt W o L ∧ L.length ≤ 9223372036854775807 ∧ L.length ≤ c ∧ (o = none → c = 0)
def TapsOk (W : World) (o : Option Addr) (L : List TP) (c : Nat) : Prop := TapsAt W o L ∧ L.length ≤ 9223372036854775807 ∧ L.length ≤ c ∧ (o = none → c = 0)
def TiksOk (W : World) (o : Option Addr) (L : List TK) (c : Nat) : Prop := TiksAt W o L ∧ L.length ≤ 9223372036854775807 ∧ L.length ≤ c ∧ (o = none → c = 0)

set_option maxRecDepth 100000 in
theorem open_tiks {W : World} {base : Nat} {sp : Nat → Bool} {v : Value} {d : DataW H} {p : List MemPlace} (hval : Value.okWide Try.prog W .any base 40 v) (h : DataW.Trod enc Try.prog W 0 sp true 40 v d p) :
    ∃ (o : Option Addr) (L : List TK) (c : Nat), v = .slice o L.length c ∧ TiksOk W o L c := by
  obtain ⟨o, len, cap, rfl⟩ := okWide_slice Try.underlying40 hval
  obtain ⟨fuel, hf⟩ := h
  obtain ⟨o', L, cap', e, h1⟩ := tiks_ofV hf
  simp [Value.cells] at e
  obtain ⟨rfl, rfl, rfl⟩ := e
  exact ⟨o, L, cap, rfl, h1⟩

set_option maxRecDepth 100000 in
theorem open_ints {W : World} {base : Nat} {sp : Nat → Bool} {v : Value} {d : DataW H} {p : List MemPlace} (hval : Value.okWide Try.prog W .any base 41 v) (h : DataW.Trod enc Try.prog W 0 sp true 41 v d p) :
    ∃ (o : Option Addr) (L : List Int) (c : Nat), v = .slice o L.length c ∧ IntsOk W o L c := by
  obtain ⟨o, len, cap, rfl⟩ := okWide_slice Try.underlying41 hval
  obtain ⟨fuel, hf⟩ := h
  obtain ⟨o', L, cap', e, h1⟩ := ints_ofV hf
  simp [Value.cells] at e
  obtain ⟨rfl, rfl, rfl⟩ := e
  exact ⟨o, L, cap, rfl, h1⟩

/-- a gate, as the model holds it -/
abbrev gtV (i z s : Int) (oa : Option Addr) (na ca : Nat) (v : Int) (od : Option Addr) (nd cd : Nat) (l u : Int) : Value := .agg #[.int .i64 i, .int .i64 z, .int .i64 s, .slice oa na ca, .int .i64 v, .slice od nd cd, .int .i64 l, .int .i64 u]

end Go.Proofs.Ytcakfmpckbmdeab
