/-
  From the row to the walk and back: a ticket, a tap, taps, tickets, integers, a ledger opened; the arguments carried behind the call.
-/
import Derived.Test.YtlnmheooicancaaR5
import Derived.Carry
import Derived.Deep.Slices
namespace Go.Proofs.Ytlnmheooicancaa
open Go.ChangeShapes Go.WideShapes Go.ChangeAt Go.RowKit Go.Deep

theorem own : ownKnob Try.prog.godebug = none := by kernel_rfl
theorem laid : laidOutB Try.prog = true := by kernel_rfl
theorem cells3' : Try.prog.cellsOf 3 = 1 := by kernel_rfl
theorem cells23 : Try.prog.cellsOf 39 = 6 := by kernel_rfl
theorem cells32 : Try.prog.cellsOf 35 = 5 := by kernel_rfl
theorem cells30 : Try.prog.cellsOf 22 = 1 := by kernel_rfl
theorem cells40 : Try.prog.cellsOf 30 = 1 := by kernel_rfl
theorem cells41 : Try.prog.cellsOf 23 = 1 := by kernel_rfl
theorem wf_i64 {n : Int} (h : (Lit.int .i64 n).wf = true) : -9223372036854775808 ≤ n ∧ n ≤ 9223372036854775807 := by
  simp [Lit.wf] at h
  exact h

section
variable {H : Type} {enc : TypeId × Value → H}

theorem six_of {W : World} {base fuel : Nat} {sp : Nat → Bool} {hd : Bool} {cs : List Value} {x : DataW H × List MemPlace} (hsz : cs.length = 6) (h : DataW.trod enc Try.prog W base sp hd fuel 39 cs = some x) :
    ∃ i k f t z r : Int, cs = [.int .i64 i, .int .i64 k, .int .i64 f, .int .i64 t, .int .i64 z, .int .i64 r] := by
  match cs, hsz with
  | [c0, c1, c2, c3, c4, c5], _ =>
  obtain ⟨xs, n, _, hx, hl, hlen, hfs⟩ := DataW.trod_struct Try.underlying39 h
  match xs, hlen with
  | [y0, y1, y2, y3, y4, y5], _ =>
  have g0 := hfs 0 _ rfl
  have g1 := hfs 1 _ rfl
  have g2 := hfs 2 _ rfl
  have g3 := hfs 3 _ rfl
  have g4 := hfs 4 _ rfl
  have g5 := hfs 5 _ rfl
  simp [cells3'] at g0 g1 g2 g3 g4 g5
  obtain ⟨i, e0, -⟩ := DataW.trod_int Try.underlying3 g0
  obtain ⟨k, e1, -⟩ := DataW.trod_int Try.underlying3 g1
  obtain ⟨f, e2, -⟩ := DataW.trod_int Try.underlying3 g2
  obtain ⟨t, e3, -⟩ := DataW.trod_int Try.underlying3 g3
  obtain ⟨z, e4, -⟩ := DataW.trod_int Try.underlying3 g4
  obtain ⟨r, e5, -⟩ := DataW.trod_int Try.underlying3 g5
  simp only [List.cons.injEq, and_true] at e0 e1 e2 e3 e4 e5
  subst e0 e1 e2 e3 e4 e5
  exact ⟨i, k, f, t, z, r, rfl⟩

theorem five_of {W : World} {base fuel : Nat} {sp : Nat → Bool} {hd : Bool} {cs : List Value} {x : DataW H × List MemPlace} (hsz : cs.length = 5) (h : DataW.trod enc Try.prog W base sp hd fuel 35 cs = some x) :
    ∃ a g s m z : Int, cs = [.int .i64 a, .int .i64 g, .int .i64 s, .int .i64 m, .int .i64 z] := by
  match cs, hsz with
  | [c0, c1, c2, c3, c4], _ =>
  obtain ⟨xs, n, _, hx, hl, hlen, hfs⟩ := DataW.trod_struct Try.underlying35 h
  match xs, hlen with
  | [y0, y1, y2, y3, y4], _ =>
  have g0 := hfs 0 _ rfl
  have g1 := hfs 1 _ rfl
  have g2 := hfs 2 _ rfl
  have g3 := hfs 3 _ rfl
  have g4 := hfs 4 _ rfl
  simp [cells3'] at g0 g1 g2 g3 g4
  obtain ⟨i, e0, -⟩ := DataW.trod_int Try.underlying3 g0
  obtain ⟨k, e1, -⟩ := DataW.trod_int Try.underlying3 g1
  obtain ⟨f, e2, -⟩ := DataW.trod_int Try.underlying3 g2
  obtain ⟨t, e3, -⟩ := DataW.trod_int Try.underlying3 g3
  obtain ⟨z, e4, -⟩ := DataW.trod_int Try.underlying3 g4
  simp only [List.cons.injEq, and_true] at e0 e1 e2 e3 e4
  subst e0 e1 e2 e3 e4
  exact ⟨i, k, f, t, z, rfl⟩

set_option maxRecDepth 100000 in
theorem open_tk {W : World} {base : Nat} {sp : Nat → Bool} {v : Value} {d : DataW H} {p : List MemPlace} (hval : Value.okWide Try.prog W .any base 39 v) (h : DataW.Trod enc Try.prog W 0 sp true 39 v d p) :
    ∃ i k f t z r : Int, v = tk i k f t z r := by
  obtain ⟨cs, rfl, hsz⟩ := okWide_struct Try.underlying39 hval
  rw [cells23] at hsz
  obtain ⟨l⟩ := cs
  obtain ⟨fuel, hf⟩ := h
  obtain ⟨i, k, f, t, z, r, e⟩ := six_of (by simpa [Value.cells] using hsz) hf
  simp only [Value.cells] at e
  subst e
  exact ⟨i, k, f, t, z, r, rfl⟩

set_option maxRecDepth 100000 in
theorem open_tp {W : World} {base : Nat} {sp : Nat → Bool} {v : Value} {d : DataW H} {p : List MemPlace} (hval : Value.okWide Try.prog W .any base 35 v) (h : DataW.Trod enc Try.prog W 0 sp true 35 v d p) :
    ∃ a g s m z : Int, v = tp a g s m z := by
  obtain ⟨cs, rfl, hsz⟩ := okWide_struct Try.underlying35 hval
  rw [cells32] at hsz
  obtain ⟨l⟩ := cs
  obtain ⟨fuel, hf⟩ := h
  obtain ⟨a, g, s, m, z, e⟩ := five_of (by simpa [Value.cells] using hsz) hf
  simp only [Value.cells] at e
  subst e
  exact ⟨a, g, s, m, z, rfl⟩

theorem taps_of {W : World} {base fuel : Nat} {sp : Nat → Bool} {hd : Bool} {cs : List Value} {x : DataW H × List MemPlace} (h : DataW.trod enc Try.prog W base sp hd fuel 22 cs = some x) :
    ∃ (o : Option Addr) (L : List TP) (cap : Nat), cs = [.slice o L.length cap] ∧ TapsAt W o L ∧ L.length ≤ 9223372036854775807 := by
  rcases open_slice Try.underlying22 h with ⟨rfl, -⟩ | ⟨a, len, cap, m, n, D, Pl, rfl, hb, hl, hm, hmm, -, hx⟩
  · exact ⟨none, [], 0, rfl, fun i p h => by simp at h, by simp⟩
  · rw [cells32] at hx
    have hle : len ≤ m := by rw [hmm]; split <;> omega
    have hT : ∀ i, i < len → ∃ p : TP, Tap5 W (a.add (i * 5)) p := by
      intro i hi
      obtain ⟨cs', h1, h2⟩ := hx i (by omega)
      obtain ⟨_, hlen, hc⟩ := World.cells?_some h1
      obtain ⟨b0, b1, b2, b3, b4, rfl⟩ := five_of hlen h2
      refine ⟨⟨b0, b1, b2, b3, b4⟩, ?_, ?_, ?_, ?_, ?_⟩
      · simpa [Addr.add] using hc 0 (by omega)
      · simpa [Addr.add] using hc 1 (by omega)
      · simpa [Addr.add] using hc 2 (by omega)
      · simpa [Addr.add] using hc 3 (by omega)
      · simpa [Addr.add] using hc 4 (by omega)
    haveI : Inhabited TP := ⟨⟨0, 0, 0, 0, 0⟩⟩
    obtain ⟨F, hF⟩ := choose_lt hT
    refine ⟨some a, (List.range len).map F, cap, by simp, ?_, ?_⟩
    · intro i p hi
      rw [List.getElem?_map, Option.map_eq_some_iff] at hi
      obtain ⟨j, hj, rfl⟩ := hi
      obtain ⟨hlt, rfl⟩ : i < len ∧ i = j := by simpa using List.getElem?_eq_some_iff.1 hj
      exact ⟨a, rfl, hF i hlt⟩
    · have : maxLen = 9223372036854775807 := rfl
      simp
      omega

theorem tiks_of {W : World} {base fuel : Nat} {sp : Nat → Bool} {hd : Bool} {cs : List Value} {x : DataW H × List MemPlace} (h : DataW.trod enc Try.prog W base sp hd fuel 30 cs = some x) :
    ∃ (o : Option Addr) (L : List TK) (cap : Nat), cs = [.slice o L.length cap] ∧ TiksAt W o L ∧ L.length ≤ 9223372036854775807 := by
  rcases open_slice Try.underlying30 h with ⟨rfl, -⟩ | ⟨a, len, cap, m, n, D, Pl, rfl, hb, hl, hm, hmm, -, hx⟩
  · exact ⟨none, [], 0, rfl, fun i p h => by simp at h, by simp⟩
  · rw [cells23] at hx
    have hle : len ≤ m := by rw [hmm]; split <;> omega
    have hT : ∀ i, i < len → ∃ p : TK, Tik6 W (a.add (i * 6)) p := by
      intro i hi
      obtain ⟨cs', h1, h2⟩ := hx i (by omega)
      obtain ⟨_, hlen, hc⟩ := World.cells?_some h1
      obtain ⟨b0, b1, b2, b3, b4, b5, rfl⟩ := six_of hlen h2
      refine ⟨⟨b0, b1, b2, b3, b4, b5⟩, ?_, ?_, ?_, ?_, ?_, ?_⟩
      · simpa [Addr.add] using hc 0 (by omega)
      · simpa [Addr.add] using hc 1 (by omega)
      · simpa [Addr.add] using hc 2 (by omega)
      · simpa [Addr.add] using hc 3 (by omega)
      · simpa [Addr.add] using hc 4 (by omega)
      · simpa [Addr.add] using hc 5 (by omega)
    haveI : Inhabited TK := ⟨⟨0, 0, 0, 0, 0, 0⟩⟩
    obtain ⟨F, hF⟩ := choose_lt hT
    refine ⟨some a, (List.range len).map F, cap, by simp, ?_, ?_⟩
    · intro i p hi
      rw [List.getElem?_map, Option.map_eq_some_iff] at hi
      obtain ⟨j, hj, rfl⟩ := hi
      obtain ⟨hlt, rfl⟩ : i < len ∧ i = j := by simpa using List.getElem?_eq_some_iff.1 hj
      exact ⟨a, rfl, hF i hlt⟩
    · have : maxLen = 9223372036854775807 := rfl
      simp
      omega

theorem ints_of {W : World} {base fuel : Nat} {sp : Nat → Bool} {hd : Bool} {cs : List Value} {x : DataW H × List MemPlace} (h : DataW.trod enc Try.prog W base sp hd fuel 23 cs = some x) :
    ∃ (o : Option Addr) (L : List Int) (cap : Nat), cs = [.slice o L.length cap] ∧ IntsAt W o L ∧ L.length ≤ 9223372036854775807 := by
  rcases open_slice1 Try.underlying23 cells3' h with ⟨rfl, -⟩ | ⟨a, len, cap, m, n, V, D, Pl, rfl, hb, hl, hm, hmm, -, hx⟩
  · exact ⟨none, [], 0, rfl, fun i p h => by simp at h, by simp⟩
  · have hle : len ≤ m := by rw [hmm]; split <;> omega
    have hT : ∀ i, i < len → ∃ p : Int, W.cell? (a.add i) = some (.int .i64 p) := by
      intro i hi
      obtain ⟨h1, h2⟩ := hx i (by omega)
      obtain ⟨k, e0, -⟩ := DataW.trod_int Try.underlying3 h2
      simp only [List.cons.injEq, and_true] at e0
      exact ⟨k, by rw [h1, e0]⟩
    obtain ⟨F, hF⟩ := choose_lt hT
    refine ⟨some a, (List.range len).map F, cap, by simp, ?_, ?_⟩
    · intro i p hi
      rw [List.getElem?_map, Option.map_eq_some_iff] at hi
      obtain ⟨j, hj, rfl⟩ := hi
      obtain ⟨hlt, rfl⟩ : i < len ∧ i = j := by simpa using List.getElem?_eq_some_iff.1 hj
      exact ⟨a, rfl, hF i hlt⟩
    · have : maxLen = 9223372036854775807 := rfl
      simp
      omega

set_option maxRecDepth 100000 in
theorem open_taps {W : World} {base : Nat} {sp : Nat → Bool} {v : Value} {d : DataW H} {p : List MemPlace} (hval : Value.okWide Try.prog W .any base 22 v) (h : DataW.Trod enc Try.prog W 0 sp true 22 v d p) :
    ∃ (o : Option Addr) (L : List TP) (cap : Nat), v = .slice o L.length cap ∧ TapsAt W o L ∧ L.length ≤ 9223372036854775807 := by
  obtain ⟨o, len, cap, rfl⟩ := okWide_slice Try.underlying22 hval
  obtain ⟨fuel, hf⟩ := h
  obtain ⟨o', L, cap', e, h1, h2⟩ := taps_of hf
  simp [Value.cells] at e
  obtain ⟨rfl, rfl, rfl⟩ := e
  exact ⟨o, L, cap, rfl, h1, h2⟩

/-- the arguments read behind the call as they did -/
theorem args_kept {P : Program} (hl : laidOutB P = true) {W W' : World} (hb : Below W.heap.size W W') : ∀ {ts : List TypeId} {vs : List Value} {ds : List (DataW H)} {ps : List MemPlace},
    (ts.all fun t => P.readableRec t && decide (t < P.types.size)) = true → DataW.TrodAll enc P W 0 (fun _ => true) true ts vs ds ps → (∀ x ∈ ps, x.block < W.heap.size) →
    DataW.TrodAll enc P W' 0 (fun b => decide (b < W.heap.size)) true ts vs ds ps
  | [], vs, ds, ps, _, h, _ => by
    obtain ⟨rfl, rfl, rfl⟩ := trodAll_nil h
    exact trodAll_mk0
  | t :: ts, vs, ds, ps, ht, h, hlt => by
    obtain ⟨v, vs', d, ds', p, q, rfl, rfl, rfl, h0, h1⟩ := trodAll_cons h
    simp only [List.all_cons, Bool.and_eq_true, decide_eq_true_eq] at ht
    exact trodAll_cons_mk (Below.trod hl ht.1.1 ht.1.2 h0 hb (fun x hx => hlt x (by simp [hx]))) (args_kept hl hb (by simpa using ht.2) h1 (fun x hx => hlt x (by simp [hx])))
end
end Go.Proofs.Ytlnmheooicancaa
