/-
  How a ticket is read as data, and laid back; the row's post out of 'Below'.
-/
import Derived.Test.YtcakfmpckbmdeabT1
namespace Go.Proofs.Ytcakfmpckbmdeab
open Go.ChangeShapes Go.WideShapes Go.ChangeAt Go.RowKit
open Go.ChangeMaps (open_string shut_string)

set_option maxRecDepth 100000 in
theorem own : ownKnob Try.prog.godebug = none := by kernel_rfl
theorem cells3' : Try.prog.cellsOf 3 = 1 := by kernel_rfl
set_option maxRecDepth 100000 in
theorem cells23 : Try.prog.cellsOf 23 = 6 := by kernel_rfl

/-- a ticket, read as data -/
abbrev tkD {H : Type} (i k f t z r : Int) : DataW H := .agg [.lit (.int .i64 i), .lit (.int .i64 k), .lit (.int .i64 f), .lit (.int .i64 t), .lit (.int .i64 z), .lit (.int .i64 r)]

abbrev wfi (n : Int) : Prop := (Lit.int .i64 n).wf = true

section
variable {H : Type} {enc : TypeId × Value → H}

set_option maxRecDepth 100000 in
theorem open_tk {W : World} {base : Nat} {sp : Nat → Bool} {v : Value} {d : DataW H} {p : List MemPlace} (hval : Value.okWide Try.prog W .any base 23 v) (h : DataW.Trod enc Try.prog W 0 sp true 23 v d p) :
    ∃ i k f t z r : Int, v = tk i k f t z r ∧ d = tkD i k f t z r ∧ p = [] ∧ wfi i ∧ wfi k ∧ wfi f ∧ wfi t ∧ wfi z ∧ wfi r := by
  obtain ⟨cs, rfl, hsz⟩ := okWide_struct Try.underlying23 hval
  rw [cells23] at hsz
  obtain ⟨l⟩ := cs
  match l, hsz with
  | [c0, c1, c2, c3, c4, c5], _ =>
  obtain ⟨fuel, hf⟩ := h
  obtain ⟨xs, n, _, hx, hl, hlen, hfs⟩ := DataW.trod_struct Try.underlying23 hf
  match xs, hlen with
  | [y0, y1, y2, y3, y4, y5], _ =>
  have g0 := hfs 0 _ rfl
  have g1 := hfs 1 _ rfl
  have g2 := hfs 2 _ rfl
  have g3 := hfs 3 _ rfl
  have g4 := hfs 4 _ rfl
  have g5 := hfs 5 _ rfl
  simp [Value.cells, cells3'] at g0 g1 g2 g3 g4 g5
  obtain ⟨i, e0, rfl, w0⟩ := DataW.trod_int Try.underlying3 g0
  obtain ⟨k, e1, rfl, w1⟩ := DataW.trod_int Try.underlying3 g1
  obtain ⟨f, e2, rfl, w2⟩ := DataW.trod_int Try.underlying3 g2
  obtain ⟨t, e3, rfl, w3⟩ := DataW.trod_int Try.underlying3 g3
  obtain ⟨z, e4, rfl, w4⟩ := DataW.trod_int Try.underlying3 g4
  obtain ⟨r, e5, rfl, w5⟩ := DataW.trod_int Try.underlying3 g5
  simp only [List.cons.injEq, and_true] at e0 e1 e2 e3 e4 e5
  subst e0 e1 e2 e3 e4 e5
  simp only [Prod.mk.injEq] at hx
  obtain ⟨rfl, rfl⟩ := hx
  exact ⟨i, k, f, t, z, r, rfl, rfl, rfl, w0, w1, w2, w3, w4, w5⟩

set_option maxRecDepth 100000 in
theorem shut_tk {W : World} {b : Nat} {sp : Nat → Bool} {hd : Bool} {i k f t z r : Int} (w0 : wfi i) (w1 : wfi k) (w2 : wfi f) (w3 : wfi t) (w4 : wfi z) (w5 : wfi r) :
    DataW.Trod enc Try.prog W b sp hd 23 (tk i k f t z r) (tkD i k f t z r) [] := ⟨2, by
  have g : ∀ n : Int, wfi n → DataW.trod enc Try.prog W b sp hd 1 3 [.int .i64 n] = some (.lit (.int .i64 n), []) := fun n hn => by simp [DataW.trod, Try.underlying3, hn]
  have h := trod_struct_mk (enc := enc) (w := W) (base := b) (spare := sp) (held := hd) (n := 1) (cs := [.int .i64 i, .int .i64 k, .int .i64 f, .int .i64 t, .int .i64 z, .int .i64 r])
    (xs := [(.lit (.int .i64 i), []), (.lit (.int .i64 k), []), (.lit (.int .i64 f), []), (.lit (.int .i64 t), []), (.lit (.int .i64 z), []), (.lit (.int .i64 r), [])]) Try.underlying23 (by simp [cells23])
    (by simp [cells3', g _ w0, g _ w1, g _ w2, g _ w3, g _ w4, g _ w5])
  simpa [Value.cells] using h⟩

set_option maxRecDepth 100000 in
theorem post_of_below {f : Func} {s : ChangeSpec} {apart fresh handsOn : Bool} {W W' : World} {args : Array Value} {v : Value} {ds gs : List (DataW H)}
    (hW : DataW.Whole enc Try.prog f.params.toList s.vars apart W args.toList ds gs [])
    (hres : ∀ (b : Nat) (sp : Nat → Bool) (hd : Bool), DataW.TrodAll enc Try.prog W' b sp hd f.resultTypes.toList (v.resultList f.resultTypes.size) (s.fn H (ds ++ gs)).results [])
    (hargs : ∀ sp : Nat → Bool, DataW.TrodAll enc Try.prog W' 0 sp true f.params.toList args.toList (s.fn H (ds ++ gs)).args [])
    (hvars : ∀ sp : Nat → Bool, DataW.TrodVars enc Try.prog W' sp s.vars (s.fn H (ds ++ gs)).vars [])
    (hb : Below W.heap.size W W') :
    s.post enc Try.prog f apart fresh handsOn false W args v W' :=
  ⟨ds, gs, [], [], [], [], hW, hres _ _ _, hargs _, hvars _, hb.frame _, fun h => by cases h⟩
end
end Go.Proofs.Ytcakfmpckbmdeab
