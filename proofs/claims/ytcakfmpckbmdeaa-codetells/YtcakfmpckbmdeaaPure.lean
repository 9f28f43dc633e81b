/-
  A region that draws its order, whose first operations look at no memory: they are taken first, in the order of the text; what is left is walked as ever.
-/
import Derived.Orders
import Derived.WalkKit
namespace Go.Proofs.Ytcakfmpckbmdeaa

section
variable {P : Program} {ops : Array Oper} {Q : Exit → Act → World → Prop}

def takesOk (ops : Array Oper) : Nat → Nat → Array Bool → Bool
  | 0, _, _ => true
  | n + 1, i, listed => Region.free .any ops listed i && (Region.ready .any ops listed).contains i && takesOk ops n (i + 1) (listed.setIfInBounds i true)

def listedAfter : Nat → Nat → Array Bool → Array Bool
  | 0, _, l => l
  | n + 1, i, l => listedAfter n (i + 1) (l.setIfInBounds i true)

/-- the walk in the order of the text: each operation yields its value in whatever world -/
def wpPure (P : Program) (ops : Array Oper) (K : Act → Prop) : List Oper → Act → Prop
  | [], a => K a
  | o :: rest, a => ∃ v, Yields P ops o v a ∧ wpPure P ops K rest (a.put o.dst v)

theorem wpPure_nil {K : Act → Prop} {a : Act} (h : K a) : wpPure P ops K [] a := h

theorem wpPure_step {K : Act → Prop} {o : Oper} {rest : List Oper} {a : Act} (hg : o.guard = none)
    (h : ∀ K' : Act → Prop, (∀ a, wpPure P ops K rest a → K' a) → ∃ v, (∀ w, (execOp a.eval o).run P w = .ok (.value v) w) ∧ K' (a.put o.dst v)) : wpPure P ops K (o :: rest) a := by
  obtain ⟨v, h1, h2⟩ := h _ (fun _ h => h)
  exact ⟨v, .inl ⟨by simp [Region.wanted, hg], h1⟩, h2⟩

theorem takes (hs : Region.noSelect ops = true) (hQ : ∀ c d v a w, Q (.panic c) (Act.put a d v) w → Q (.panic c) a w) {fuel : Nat} {w : World} :
    ∀ (l : List Oper) (i : Nat) (listed : Array Bool) (a : Act), (∀ j, j < l.length → ops[i + j]? = l[j]?) → takesOk ops l.length i listed = true →
      wpPure P ops (fun a' => wpAny P .any ops Q fuel (listedAfter l.length i listed) a' w) l a → wpAny P .any ops Q (fuel + l.length) listed a w
  | [], i, listed, a, _, _, h => h
  | o :: l, i, listed, a, hl, hk, h => by
    obtain ⟨v, hy, hrest⟩ := h
    simp only [List.length_cons, takesOk, Bool.and_eq_true] at hk
    have h0 : ops[i]? = some o := by simpa using hl 0 (by simp)
    refine wpAny_take (i := i) (oi := o) (v := v) (fuel := fuel + l.length) h0 hs hk.1.1 hk.1.2 (fun c a w => hQ c o.dst v a w) hy ?_
    exact takes hs hQ l (i + 1) (listed.setIfInBounds i true) (a.put o.dst v) (fun j hj => by
      have := hl (j + 1) (by simpa using hj)
      rw [show i + 1 + j = i + (j + 1) by omega]; simpa using this) hk.2 hrest

theorem wp_region_pure {id : Nat} {a : Act} {w : World} {l : List Oper} (n m : Nat) (hn : l.length = m + n) (hm : P.follows .mixedOrders = true) (hs : Region.noSelect l.toArray = true)
    (hk : takesOk l.toArray n 0 (Array.replicate (m + n) false) = true) (hQ : ∀ c d v a w, Q (.panic c) (Act.put a d v) w → Q (.panic c) a w)
    (h : wpPure P l.toArray (fun a' => wpAny P .any l.toArray Q m (listedAfter n 0 (Array.replicate (m + n) false)) a' w.drew) (l.take n) a) : (Code.region id l.toArray true).wp P Q a w := by
  refine wp_region_any hm ?_
  have hlen : (l.take n).length = n := by rw [List.length_take]; omega
  have := takes (P := P) (ops := l.toArray) (Q := Q) (fuel := m) (w := w.drew) hs hQ (l.take n) 0 (Array.replicate (m + n) false) a (fun j hj => by
    rw [hlen] at hj
    simp [hj]) (by rw [hlen]; exact hk) (by rw [hlen]; exact h)
  rw [hlen] at this
  simpa [hn] using this

/-- one operation alone may come up -/
theorem one_ready {i : Nat} {o : Oper} {fuel : Nat} {listed : Array Bool} {a : Act} {w : World} (hr : Region.ready .any ops listed = [i]) (ho : ops[i]? = some o) (hg : o.guard = none)
    (h : ∀ K' : Act → World → Prop, (∀ a w, wpAny P .any ops Q fuel (listed.setIfInBounds i true) a w → K' a w) → o.wp P a w K' Q) : wpAny P .any ops Q (fuel + 1) listed a w := by
  refine wpAny_all hr (by simp) (fun j hj => ?_)
  obtain rfl : j = i := by simpa using hj
  unfold wpOp
  simp only [ho]
  rw [if_pos (by simp [Region.wanted, hg])]
  exact .inl (h _ (fun _ _ h => h))
end
end Go.Proofs.Ytcakfmpckbmdeaa
